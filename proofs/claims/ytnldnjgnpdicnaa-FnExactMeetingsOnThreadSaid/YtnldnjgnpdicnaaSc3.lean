/- Meetings on a thread: the model's walk. -/
import Derived.Test.YtnldnjgnpdicnaaSc2
namespace Go.Proofs.Ytnldnjgnpdicnaa
open Go.RowKit
set_option linter.unusedVariables false

theorem MtS.skip {xs : List (Int × Int)} {k j : Nat} {Z : List Int} (h : MtS xs k j Z) (hm : mtS xs k j = false) : MtS xs k (j + 1) Z := ⟨by rw [← selT_no _ _ hm]; exact h.perm, h.sort⟩

theorem meet_cells {xs : List (Int × Int)} {k i : Nat} {a b c d : Int} (hab : xs.getD k (0, 0) = (a, b)) (hcd : xs.getD i (0, 0) = (c, d)) {w : World} {B : Nat} {v : Value} (h : Ints w B 3 v (meetL a b c d)) :
    ∃ gm cm : Nat, v = .slice (some ⟨gm, 0, none⟩) 4 cm ∧ B ≤ gm ∧ gm < w.heap.size ∧ w.cell? ⟨gm, 0, none⟩ = some (.int .i64 ((exA xs k i : Nat) : Int)) ∧ w.cell? ⟨gm, 1, none⟩ = some (.int .i64 ((exB xs k i : Nat) : Int)) := by
  obtain ⟨a0, cap, g, rfl, ha, _, _, hg, hc, _⟩ := h.view
  obtain rfl := ha (by simp [meetL])
  obtain ⟨h1, h2⟩ := hg (by simp [meetL])
  have e0 := hc 0 (by simp [meetL])
  have e1 := hc 1 (by simp [meetL])
  refine ⟨g, cap, rfl, h1, h2, ?_, ?_⟩
  · rw [e0]; unfold exA; rw [hab, hcd]; rfl
  · rw [e1]; unfold exB; rw [hab, hcd]; rfl

theorem lt_leS {xs : List (Int × Int)} {k : Nat} {z j : Nat} (h : z < j) : ltS xs k (z : Int) (j : Int) = decide (exA xs k z * exB xs k j ≤ exA xs k j * exB xs k z) := by
  unfold ltS
  rw [decide_eq_decide, Int.toNat_natCast, Int.toNat_natCast]
  omega

set_option maxHeartbeats 8000000 in
set_option maxRecDepth 100000 in
theorem sMeetings_yes (u : Value) (xs : List (Int × Int)) (k B T : Nat) (w : World) (h : PairsIn 83 w B T u xs) (hT : T ≤ w.heap.size) (hg : goodT xs) (hk : k < xs.length) :
    Calls Try.prog 14 #[u, .int .i64 (k : Int)] w fun e w' => ∃ v Z, e = .returned (.tuple #[v, .bool true]) ∧ IntsIn 3 w' w.heap.size w'.heap.size v Z ∧ MtS xs k xs.length Z ∧ Below w.heap.size w w' := by
  have hn : xs.length ≤ 30 := hg.1.2
  have HG := Lib.hid hg
  have HH := Lib.hid h
  obtain ⟨a1, c1, g1, rfl, ha1, hm, hx1, hy1⟩ := h.pairs.view
  obtain rfl := ha1 (by omega)
  obtain ⟨a, b, hab⟩ : ∃ a b, xs.getD k (0, 0) = (a, b) := ⟨_, _, rfl⟩
  have HX := Lib.hid hx1
  have HY := Lib.hid hy1
  have HAB := Lib.hid hab
  have hisk := hg.at k hk
  rw [hab] at hisk
  have HK := Lib.hid hisk
  have hk2 : (0 : Int) ≤ (k : Int) := by omega
  have hk3 : (k : Int) < (xs.length : Int) := by omega
  have hk4 : (k : Int) ≤ (xs.length : Int) - 1 := by omega
  clear hg h hx1 hy1 hab ha1 hisk
  go_enter Try.func14, Try.ntmps14
  go_wp2_with (first | (go_at_call 60; (with_reducible refine (sgGood_yes _ xs B T _ HH.out HG.out).mono ?_); rintro e w1 ⟨rfl, hb1⟩; have hz1 := hb1.size) | (go_at_call 50; (with_reducible refine (l1In_yes _ 0 _ _ ⟨by omega, by omega⟩).mono ?_); rintro e w2 ⟨rfl, rfl⟩))
  go_loopw [6, 26] (fun v i wr => ∃ j : Nat, j ≤ xs.length ∧ i = .int .i64 (j : Int) ∧ Hid (∃ Z, Ints wr w.heap.size 3 v Z ∧ MtS xs k j Z ∧ (Z = [] → v = (Value.slice none 0 0))) ∧ Below w.heap.size w wr) (fun _ i _ => xs.length - (intOf i).toNat)
  case atStart => exact ⟨0, by omega, rfl, Lib.hid ⟨[], World.ownsRow_nil _ _ _ _, ⟨by rw [selT_zero], by unfold SortS; simp⟩, fun _ => rfl⟩, hb1⟩
  case round =>
    obtain ⟨j, hj, rfl, HZ, hB⟩ := hrel
    obtain ⟨wo, rfl⟩ : ∃ q, q = wr := ⟨wr, rfl⟩
    have hz := hB.size
    obtain ⟨Z, hI, hMZ, hnil⟩ := HZ.out
    have HI0 := Lib.hid hI
    have HM := Lib.hid hMZ
    have HNIL := Lib.hid hnil
    have hzl := hMZ.len
    obtain ⟨a3, cz, hv⟩ := hI.openS
    subst hv
    obtain ⟨_, hcz, hczm⟩ := hI.capS
    unfold maxLen at hczm
    clear hI hMZ hnil HZ
    by_cases hlt : j < xs.length
    · obtain ⟨c, d, hcd⟩ : ∃ c d, xs.getD j (0, 0) = (c, d) := ⟨_, _, rfl⟩
      have e0 := cellB hB (HX.out k hk); have e1 := cellB hB (HY.out k hk)
      have e2 := cellB hB (HX.out j hlt); have e3 := cellB hB (HY.out j hlt)
      rw [HAB.out] at e0 e1
      rw [hcd] at e2 e3
      simp only at e0 e1 e2 e3
      have HCD := Lib.hid hcd
      have hisj := HG.out.at j hlt
      rw [hcd] at hisj
      have HJ := Lib.hid hisj
      have lg1 : g1 < wo.heap.size := by have := World.block_lt_of_cell? _ _ e0; simpa using this
      have hj0 : (0 : Int) ≤ (j : Int) := by omega
      have hj1 : (j : Int) < (xs.length : Int) := by omega
      have hbw : Below wo.heap.size wo (wo.alloc (.cells #[.int .i64 c, .int .i64 d] 83)) := by go_grown
      have f0 := cellB hbw e0; have f1 := cellB hbw e1
      have p0 : (wo.alloc (.cells #[.int .i64 c, .int .i64 d] 83)).cell? ⟨wo.heap.size, 0, none⟩ = some (.int .i64 c) := by go_simp
      have p1 : (wo.alloc (.cells #[.int .i64 c, .int .i64 d] 83)).cell? ⟨wo.heap.size, 1, none⟩ = some (.int .i64 d) := by go_simp
      obtain ⟨mt, hmt⟩ : ∃ mt, meetB a b c d = mt := ⟨_, rfl⟩
      have HMT := Lib.hid hmt
      have HMK : Hid (mtS xs k j = mt) := Lib.hid (by unfold mtS meetP; rw [HAB.out, hcd]; exact hmt)
      clear hcd hisj hmt
      cases mt with
      | false =>
        go_wp2
        go_region_held3 (fun w' => w'.cell? ⟨g1, k * 2, none⟩ = some (.int .i64 a) ∧ w'.cell? ⟨g1, k * 2 + 1, none⟩ = some (.int .i64 b) ∧ w'.cell? ⟨wo.heap.size, 0, none⟩ = some (.int .i64 c) ∧ w'.cell? ⟨wo.heap.size, 1, none⟩ = some (.int .i64 d)) (go_keep)
          (first | (go_at_call 61; (refine (sgMeet_any a b c d _).mono ?_); rintro e w2 ⟨rfl, hb2⟩; rw [HMT.out]; have q0 := cellB hb2 f0; have q1 := cellB hb2 f1; have q2 := cellB hb2 p0; have q3 := cellB hb2 p1; (have hB2 : Below wo.heap.size wo w2 := Below.trans (by go_grown) (hb2.mono (by simp; try omega)))))
        go_wp2
        go_roundw
        case rel => exact ⟨j + 1, by omega, by go_num, Lib.hid ⟨Z, HI0.out.later hB2, HM.out.skip HMK.out, HNIL.out⟩, hB.trans (hB2.mono hz)⟩
        case measure => simp [intOf]; omega
      | true =>
        have hmj : mtS xs k j = true := HMK.out
        obtain ⟨y1, y2, y3⟩ := ex_boundsS HG.out hk hlt hmj
        have HCELLS := Lib.hid (fun (w' : World) (B' : Nat) (v' : Value) (hi : Ints w' B' 3 v' (meetL a b c d)) => meet_cells HAB.out HCD.out hi)
        obtain ⟨P, hP⟩ : ∃ P, exA xs k j = P := ⟨_, rfl⟩
        obtain ⟨Q, hQ⟩ : ∃ P, exB xs k j = P := ⟨_, rfl⟩
        rw [hP, hQ] at HCELLS
        rw [hP] at y1
        rw [hQ] at y2 y3
        have HP := Lib.hid hP
        have HQ := Lib.hid hQ
        clear hP hQ
        go_wp2
        go_region_held3 (fun w' => w'.cell? ⟨g1, k * 2, none⟩ = some (.int .i64 a) ∧ w'.cell? ⟨g1, k * 2 + 1, none⟩ = some (.int .i64 b) ∧ w'.cell? ⟨wo.heap.size, 0, none⟩ = some (.int .i64 c) ∧ w'.cell? ⟨wo.heap.size, 1, none⟩ = some (.int .i64 d)) (go_keep)
          (first | (go_at_call 61; (refine (sgMeet_any a b c d _).mono ?_); rintro e w2 ⟨rfl, hb2⟩; rw [HMT.out]; have q0 := cellB hb2 f0; have q1 := cellB hb2 f1; have q2 := cellB hb2 p0; have q3 := cellB hb2 p1; (have hB2 : Below wo.heap.size wo w2 := Below.trans (by go_grown) (hb2.mono (by simp; try omega)))))
        go_wp2
        go_region_held3 (fun w' => w'.cell? ⟨g1, k * 2, none⟩ = some (.int .i64 a) ∧ w'.cell? ⟨g1, k * 2 + 1, none⟩ = some (.int .i64 b) ∧ w'.cell? ⟨wo.heap.size, 0, none⟩ = some (.int .i64 c) ∧ w'.cell? ⟨wo.heap.size, 1, none⟩ = some (.int .i64 d)) (go_keep)
          (first | (go_at_call 62; (refine (sgMeeting_e a b c d _ HK.out HJ.out HMT.out).mono ?_); rintro e w3 ⟨vm, rfl, hIm, hb3⟩; have r0 := cellB hb3 q0; have r1 := cellB hb3 q1; have r2 := cellB hb3 q2; have r3 := cellB hb3 q3; (have HB3 : Below wo.heap.size wo w3 := hB2.trans (Below.trans (by first | exact Below.refl _ _ | exact bdn (Below.refl _ _) _) (hb3.mono hB2.size))); (obtain ⟨gm, cm, rfl, hgm1, hgm2, m0, m1⟩ := HCELLS.out _ _ _ hIm)))
        have hz3 := HB3.size
        have HI := Lib.hid (HI0.out.later HB3)
        have bx := r2
        clear e0 e1 e2 e3 f0 f1 p0 p1 q0 q1 q2 q3 hIm hbw
        by_cases hZ0 : Z = []
        · subst hZ0
          have hv0 := HNIL.out rfl
          obtain ⟨rfl, _, rfl⟩ : a3 = none ∧ ([] : List Int).length = 0 ∧ cz = 0 := by simpa using hv0
          obtain ⟨t, ht0⟩ : ∃ t : Nat, t = 0 := ⟨_, rfl⟩
          have HPUT := Lib.hid (HM.out.put HG.out hk hlt hmj (at' := 0) (by simp) (.inl rfl))
          subst ht0
          go_wp2
          refine wp_loop_rounds 1 ?_
          rw [rounds_succ]
          go_wp2_with (first
            | (go_at_call 63; (refine (l1OwnS_any _ [] w.heap.size _ (World.ownsRow_nil _ _ _ _) (by simp)).mono ?_); rintro ee w6 ⟨v6, rfl, hI6, hb6⟩; have HI6 := Lib.hid hI6; have hz6 := hb6.size; (have hbx6 := cellB hb6 bx); clear hI6)
            | (at_builtin; (refine wpList_append_int rfl _ _ 33 rfl w3.heap.size 3 Try.underlying33 info_int _ _ rfl HI6.out (j : Int) rfl (by simp) (by omega) ?_); intro v7 w7 hI7 hg7; (have HB7 := Lib.hid (HI6.out.below hb6 hz6 hg7)); (have HI7 := Lib.hid hI7); have hz7 := HB7.out.size; clear hI7 hg7)
            | (at_builtin; (refine wpList_append_srcS rfl _ _ 33 rfl w3.heap.size 3 Try.underlying33 info_int _ _ _ [] rfl rfl HI7.out (.inl ⟨rfl, rfl⟩) (by simp) hz7 ?_); intro v8 w8 hI8 hg8; (have HB8 := Lib.hid (HI7.out.below HB7.out hz7 hg8)); (have HI8 := Lib.hid hI8); have hz8 := HB8.out.size; clear hI8 hg8))
          all_goals
            go_roundw
            case rel => exact ⟨j + 1, by omega, by go_num, Lib.hid ⟨_, HI8.out.mono (by omega), HPUT.out, fun e => by simp at e⟩, hB.trans ((HB3.mono (by omega)).trans (HB8.out.mono (by omega)))⟩
            case measure => simp [intOf]; omega
        · have hZ1 : 0 < Z.length := by rcases Z with _ | ⟨z0, Z0⟩; exact absurd rfl hZ0; simp
          obtain ⟨gz, rfl, hgz⟩ : ∃ gz, a3 = some ⟨gz, 0, none⟩ ∧ gz < wo.heap.size ∧ True := by
            obtain ⟨a9, c9, g9, hv9, ha9, _, _, hg9, _, _⟩ := HI0.out.view
            obtain ⟨rfl, _, _⟩ : a3 = a9 ∧ True ∧ True := by simp at hv9; exact ⟨hv9.1, trivial, trivial⟩
            exact ⟨g9, ha9 hZ1, (hg9 hZ1).2, trivial⟩
          obtain ⟨lz, hlz⟩ : ∃ lz, Z.length = lz := ⟨_, rfl⟩
          rw [hlz] at hcz hzl hZ1
          have HLZ := Lib.hid hlz
          rw [hlz]
          clear hlz hZ0
          go_wp2
          go_loopw [10] (fun x wr => ∃ t : Nat, t ≤ lz ∧ x = .int .i64 (t : Int) ∧ Hid (∀ z ∈ Z.drop t, ltS xs k (j : Int) z = true) ∧ Below w3.heap.size w3 wr) (fun x _ => (intOf x).toNat)
          case atStart => exact ⟨lz, Nat.le_refl _, rfl, Lib.hid (by rw [List.drop_of_length_le (by rw [HLZ.out]; exact Nat.le_refl _)]; simp), Below.refl _ _⟩
          case round =>
            obtain ⟨t, htl, rfl, HD, hBt⟩ := hrel
            obtain ⟨wi, rfl⟩ : ∃ q, q = wr := ⟨wr, rfl⟩
            have hzi := hBt.size
            by_cases h0 : 0 < t
            · obtain ⟨s, hs⟩ : ∃ s, s + 1 = t := ⟨t - 1, by omega⟩
              have hzm : Z.getD s 0 ∈ Z := getD_memS _ _ (by rw [HLZ.out]; omega)
              obtain ⟨zn, hzn, hznj, hmz⟩ := HM.out.mem hzm
              have hznn : zn < xs.length := by omega
              obtain ⟨e, f, hef⟩ : ∃ e f, xs.getD zn (0, 0) = (e, f) := ⟨_, _, rfl⟩
              have k1 := cellB hBt r0
              have k2 := cellB hBt r1
              have kB := hB.trans ((HB3.trans (hBt.mono (by omega))).mono hz)
              have k3 := cellB kB (HX.out zn hznn)
              have k4 := cellB kB (HY.out zn hznn)
              rw [hef] at k3 k4
              simp only at k3 k4
              have k5 : wi.cell? ⟨gz, s, none⟩ = some (.int .i64 (zn : Int)) := by rw [← hzn]; exact (HI.out.later hBt).cellAt s (by rw [HLZ.out]; omega)
              have k6 := cellB hBt m0
              have k7 := cellB hBt m1
              have hisz := HG.out.at zn hznn
              rw [hef] at hisz
              have HZN := Lib.hid hisz
              obtain ⟨x1, x2, x3⟩ := ex_boundsS HG.out hk hznn hmz
              have HMZ := Lib.hid (show meetB a b e f = true by unfold mtS meetP at hmz; rw [HAB.out, hef] at hmz; exact hmz)
              have HCELLZ := Lib.hid (fun (w' : World) (B' : Nat) (v' : Value) (hi : Ints w' B' 3 v' (meetL a b e f)) => meet_cells HAB.out hef hi)
              have hlts := lt_leS (xs := xs) (k := k) hznj
              obtain ⟨R, hR⟩ : ∃ P, exA xs k zn = P := ⟨_, rfl⟩
              obtain ⟨U, hU⟩ : ∃ P, exB xs k zn = P := ⟨_, rfl⟩
              rw [hR, hU] at HCELLZ
              rw [hR] at x1
              rw [hU] at x2
              rw [hR, hU, HP.out, HQ.out] at hlts
              have w1' : R * Q ≤ 1000000 * 10000 := Nat.mul_le_mul x1 y2
              have w2' : P * U ≤ 1000000 * 10000 := Nat.mul_le_mul y1 x2
              have ww1 : IntKind.i64.wrap ((R : Int) * (Q : Int)) = ((R * Q : Nat) : Int) := by rw [IntKind.wrap_i64, ← Int.natCast_mul]; omega
              have ww2 : IntKind.i64.wrap ((P : Int) * (U : Int)) = ((P * U : Nat) : Int) := by rw [IntKind.wrap_i64, ← Int.natCast_mul]; omega
              obtain ⟨A1, hA1⟩ : ∃ q, R * Q = q := ⟨_, rfl⟩
              obtain ⟨A2, hA2⟩ : ∃ q, P * U = q := ⟨_, rfl⟩
              rw [hA1] at ww1 hlts
              rw [hA2] at ww2 hlts
              have hws : IntKind.i64.wrap ((t : Int) - 1) = (s : Int) := by rw [IntKind.wrap_i64]; omega
              have s0 : (0 : Int) ≤ (s : Int) := by omega
              have s1 : (s : Int) < (lz : Int) := by omega
              have z0 : (0 : Int) ≤ (zn : Int) := by omega
              have z1 : (zn : Int) < (xs.length : Int) := by omega
              have h0' : (0 : Int) < (t : Int) := by omega
              have HZS := Lib.hid hzn
              have HS := Lib.hid hs
              have lgm : gm < wi.heap.size := by omega
              clear hzm hmz hef hR hU hA1 hA2 w1' w2' hisz x3 hs hzn
              go_wp2
              go_region_held3 (fun w' => w'.cell? ⟨g1, k * 2, none⟩ = some (.int .i64 a) ∧ w'.cell? ⟨g1, k * 2 + 1, none⟩ = some (.int .i64 b) ∧ w'.cell? ⟨g1, zn * 2, none⟩ = some (.int .i64 e) ∧ w'.cell? ⟨g1, zn * 2 + 1, none⟩ = some (.int .i64 f) ∧ w'.cell? ⟨gz, s, none⟩ = some (.int .i64 (zn : Int))) (go_keep)
                (first | (go_at_call 62; (refine (sgMeeting_e a b e f _ HK.out HZN.out HMZ.out).mono ?_); rintro ee w5 ⟨vo, rfl, hIo, hb5⟩; have t0 := cellB hb5 k1; have t1 := cellB hb5 k2; have t2 := cellB hb5 k3; have t3 := cellB hb5 k4; have t4 := cellB hb5 k5; have t5 := cellB hb5 k6; have t6 := cellB hb5 k7; (have HB5 : Below wi.heap.size wi w5 := by first | exact hb5 | exact (bdn (Below.refl _ _) _).trans hb5); (obtain ⟨go, co, rfl, hgo1, hgo2, o0, o1⟩ := HCELLZ.out _ _ _ hIo)))
              have hflip : ltS xs k (zn : Int) (j : Int) = false → ltS xs k (j : Int) (zn : Int) = true := fun hf => by
                unfold ltS at hf ⊢
                rw [decide_eq_false_iff_not] at hf
                rw [decide_eq_true_eq]
                omega
              have HFL := Lib.hid hflip
              clear hflip
              cases hL : ltS xs k (zn : Int) (j : Int) with
              | true =>
                rw [hL] at hlts
                have hle0 : A1 ≤ A2 := of_decide_eq_true hlts.symm
                have hle : (A1 : Int) ≤ (A2 : Int) := by omega
                have HPUT := Lib.hid (HM.out.put HG.out hk hlt hmj (at' := t) HD.out (.inr ⟨h0, by rw [HLZ.out]; exact htl, by rw [show t - 1 = s by have := HS.out; omega, HZS.out]; exact hL⟩))
                clear hlts
                go_wp2
                go_quiet (fail)
                obtain ⟨W0, hW0⟩ : ∃ z, z = w5.drewN nq := ⟨_, rfl⟩
                rw [← hW0]
                have hBT0 : Below wi.heap.size wi W0 := by rw [hW0]; exact bdn HB5 _
                have HBT := hBt.trans (hBT0.mono hzi)
                have hbx := cellB HBT bx
                clear hW0
                have HIW := Lib.hid (HI.out.later HBT)
                have hzT := HBT.size
                have hcz0 : (0 : Int) ≤ (t : Int) := by omega
                have hcz1 : (t : Int) ≤ (cz : Int) := by omega
                have hcz2 : (t : Int) ≤ (lz : Int) := by omega
                have hcz3 : (lz : Int) ≤ (cz : Int) := by omega
                have HSRC := Lib.hid (fun (W' : World) (hb : Below W0.heap.size W0 W') => show SrcV W' (.slice (if cz = t then some ⟨gz, 0, none⟩ else some ⟨gz, t, none⟩) (lz - t) (cz - t)) ((Z.drop t).map (Value.int .i64)) from by
                  have := srcV_drop_if (c' := cz - t) (k := t) (m := lz - t) ((ints_srcS HIW.out).later hb) (by rw [List.length_map, HLZ.out]; exact htl) (by rw [List.length_map, HLZ.out]; exact hcz) (by rw [List.length_map, HLZ.out])
                  rw [List.map_drop]
                  exact this)
                have HTK := Lib.hid (HIW.out.takeS (k := t) (by rw [HLZ.out]; exact htl))
                have HL1 := Lib.hid (show (Z.take t).length ≤ 1000 by rw [List.length_take, HLZ.out]; omega)
                have HL2 := Lib.hid (show (Z.take t ++ [(j : Int)]).length + (Z.drop t).length ≤ 1000000000 by rw [List.length_append, List.length_take, List.length_drop, HLZ.out]; simp; omega)
                go_wp2_with (first
                  | (go_at_call 63; (refine (l1OwnS_any _ (Z.take t) w.heap.size _ HTK.out HL1.out).mono ?_); rintro ee w6 ⟨v6, rfl, hI6, hb6⟩; have HI6 := Lib.hid hI6; have hz6 := hb6.size; (have hbx6 := cellB hb6 hbx); clear hI6)
                  | (at_builtin; (refine wpList_append_int rfl _ _ 33 rfl W0.heap.size 3 Try.underlying33 info_int _ _ rfl HI6.out (j : Int) rfl (Nat.lt_of_le_of_lt HL1.out (by omega)) (by omega) ?_); intro v7 w7 hI7 hg7; (have HB7 := Lib.hid (HI6.out.below hb6 hz6 hg7)); (have HI7 := Lib.hid hI7); have hz7 := HB7.out.size; clear hI7 hg7)
                  | (at_builtin; (refine wpList_append_srcS rfl _ _ 33 rfl W0.heap.size 3 Try.underlying33 info_int _ _ _ (Z.drop t) rfl rfl HI7.out (HSRC.out _ HB7.out) HL2.out hz7 ?_); intro v8 w8 hI8 hg8; (have HB8 := Lib.hid (HI7.out.below HB7.out hz7 hg8)); (have HI8 := Lib.hid hI8); have hz8 := HB8.out.size; clear hI8 hg8))
                all_goals
                  go_roundw
                  case rel => exact ⟨j + 1, by omega, by go_num, Lib.hid ⟨_, HI8.out.mono (by omega), HPUT.out, fun e => by simp at e⟩, hB.trans ((HB3.trans (HBT.mono (by omega))).mono (by omega) |>.trans (HB8.out.mono (by omega)))⟩
                  case measure => simp [intOf]; omega
              | false =>
                rw [hL] at hlts
                have hle0 : ¬ A1 ≤ A2 := of_decide_eq_false hlts.symm
                have hle : ¬ (A1 : Int) ≤ (A2 : Int) := by omega
                have HD2 := Lib.hid (show ∀ z ∈ Z.drop s, ltS xs k (j : Int) z = true from fun z hz => by
                  rw [List.drop_eq_getElem_cons (by rw [HLZ.out]; omega)] at hz
                  rcases List.mem_cons.1 hz with rfl | hz
                  · have e1 := HZS.out
                    have e2 : Z.getD s 0 = Z[s]'(by rw [HLZ.out]; omega) := by simp [List.getD, (by rw [HLZ.out]; omega : s < Z.length)]
                    rw [← e2, e1]
                    exact HFL.out hL
                  · rw [HS.out] at hz
                    exact HD.out z hz)
                clear hlts
                go_wp2
                go_quiet (fail)
                go_wp2
                go_roundw
                case rel => exact ⟨s, by omega, by go_num, HD2, bdn (hBt.trans (HB5.mono hzi)) _⟩
                case measure => have := HS.out; simp [intOf]; omega
            · have ht0 : ¬ (0 : Int) < (t : Int) := by omega
              have HPUT := Lib.hid (HM.out.put HG.out hk hlt hmj (at' := t) HD.out (.inl (by omega)))
              have HBT := hBt
              have hbx := cellB HBT bx
              have HIW := Lib.hid (HI.out.later HBT)
              have hzT := HBT.size
              have hcz0 : (0 : Int) ≤ (t : Int) := by omega
              have hcz1 : (t : Int) ≤ (cz : Int) := by omega
              have hcz2 : (t : Int) ≤ (lz : Int) := by omega
              have hcz3 : (lz : Int) ≤ (cz : Int) := by omega
              have HSRC := Lib.hid (fun (W' : World) (hb : Below wi.heap.size wi W') => show SrcV W' (.slice (some ⟨gz, t, none⟩) (lz - t) (cz - t)) ((Z.drop t).map (Value.int .i64)) from by
                have := srcV_drop_at (c' := cz - t) (k := t) (m := lz - t) (off := t) ((ints_srcS HIW.out).later hb) (by rw [List.length_map, HLZ.out]; exact htl) (by rw [List.length_map, HLZ.out]) (.inl rfl)
                rw [List.map_drop]
                exact this)
              have HTK := Lib.hid (HIW.out.takeS (k := t) (by rw [HLZ.out]; exact htl))
              have HL1 := Lib.hid (show (Z.take t).length ≤ 1000 by rw [List.length_take, HLZ.out]; omega)
              have HL2 := Lib.hid (show (Z.take t ++ [(j : Int)]).length + (Z.drop t).length ≤ 1000000000 by rw [List.length_append, List.length_take, List.length_drop, HLZ.out]; simp; omega)
              go_wp2_with (first
                | (go_at_call 63; (refine (l1OwnS_any _ (Z.take t) w.heap.size _ HTK.out HL1.out).mono ?_); rintro ee w6 ⟨v6, rfl, hI6, hb6⟩; have HI6 := Lib.hid hI6; have hz6 := hb6.size; (have hbx6 := cellB hb6 hbx); clear hI6)
                | (at_builtin; (refine wpList_append_int rfl _ _ 33 rfl wi.heap.size 3 Try.underlying33 info_int _ _ rfl HI6.out (j : Int) rfl (Nat.lt_of_le_of_lt HL1.out (by omega)) (by omega) ?_); intro v7 w7 hI7 hg7; (have HB7 := Lib.hid (HI6.out.below hb6 hz6 hg7)); (have HI7 := Lib.hid hI7); have hz7 := HB7.out.size; clear hI7 hg7)
                | (at_builtin; (refine wpList_append_srcS rfl _ _ 33 rfl wi.heap.size 3 Try.underlying33 info_int _ _ _ (Z.drop t) rfl rfl HI7.out (HSRC.out _ HB7.out) HL2.out hz7 ?_); intro v8 w8 hI8 hg8; (have HB8 := Lib.hid (HI7.out.below HB7.out hz7 hg8)); (have HI8 := Lib.hid hI8); have hz8 := HB8.out.size; clear hI8 hg8))
              all_goals
                go_roundw
                case rel => exact ⟨j + 1, by omega, by go_num, Lib.hid ⟨_, HI8.out.mono (by omega), HPUT.out, fun e => by simp at e⟩, hB.trans ((HB3.trans (HBT.mono (by omega))).mono (by omega) |>.trans (HB8.out.mono (by omega)))⟩
                case measure => simp [intOf]; omega
    · obtain rfl : j = xs.length := by omega
      go_wp2
      go_ret2
      exact ⟨_, rfl, Z, ⟨HI0.out, HI0.out.inn.2⟩, HM.out, hB⟩

end Go.Proofs.Ytnldnjgnpdicnaa
