/- Plane pairings by their ranks: the program, the model. -/
import Derived.Test.YtenkokkhdcjcaabR3
namespace Go.Proofs.Ytenkokkhdcjcaab
open Go.RowKit
set_option linter.unusedVariables false

theorem und_ex (n r : Nat) (h16 : n < 16) (h0 : 0 < n) (hr : r < cat n) : ∃ u, u < n ∧ catSum n u ≤ r ∧ r < catSum n (u + 1) := by
  have hall := catSum_all n h16 h0
  have : ∀ k, k ≤ n → r < catSum n k → ∃ u, u < k ∧ catSum n u ≤ r ∧ r < catSum n (u + 1) := by
    intro k
    induction k with
    | zero => intro _ h; simp [catSum] at h
    | succ k ihk =>
      intro hk h
      by_cases e : r < catSum n k
      · obtain ⟨u, a1, a2, a3⟩ := ihk (by omega) e
        exact ⟨u, by omega, a2, a3⟩
      · exact ⟨k, by omega, by omega, h⟩
  exact this n (Nat.le_refl _) (by omega)

set_option maxHeartbeats 400000 in
theorem planeFrom_zero (a r : Nat) (w : World) :
    Calls Try.prog 58 #[.int .i64 a, .int .i64 0, .int .i64 r] w fun e w' => ∃ v, e = .returned v ∧ PairsIn 62 w' w.heap.size w'.heap.size v [] ∧ Below w.heap.size w w' := by
  go_enter Try.func58, Try.ntmps58
  go_wp2
  go_ret
  exact ⟨_, rfl, PairsIn.nil _ _ _ _, by go_grown⟩

theorem planeFrom_any (f : Nat) : ∀ (a n r : Nat) (w : World), n ≤ f → n ≤ 15 → a + 2 * n ≤ 60 → r < cat n →
    Calls Try.prog 58 #[.int .i64 a, .int .i64 n, .int .i64 r] w fun e w' => ∃ v, e = .returned v ∧ PairsIn 62 w' w.heap.size w'.heap.size v (ofRank f a n r) ∧ Below w.heap.size w w' := by
  induction f with
  | zero =>
    intro a n r w hn _ _ _
    obtain rfl := Nat.le_zero.1 hn
    exact planeFrom_zero a r w
  | succ f ih =>
    intro a n r w hn h15 ha hr
    by_cases h0 : n = 0
    · subst h0
      rw [ofRank_zero]
      exact planeFrom_zero a r w
    · obtain ⟨u, hu, h1, h2⟩ := und_ex n r (by omega) (by omega) hr
      exact planeFrom_step f a n r u w (by omega) h15 hn ha h1 h2 hu (fun a' n' r' W h3 h4 h5 => ih a' n' r' W (by omega) (by omega) h4 h5)

set_option maxHeartbeats 400000 in
theorem iOfRank_yes (p r : Nat) (w : World) (hp : (4 ≤ p ∧ p ≤ 30) ∧ p % 2 = 0) (hr : r < cat (p / 2)) :
    Calls Try.prog 23 #[.int .i64 p, .int .i64 r] w (Gives (PairsIn 62) w (ofRank 15 0 (p / 2) r) true) := by
  have H := Lib.hid (planeFrom_any 15 0 (p / 2) r)
  have hq : (p : Int) / 2 = ((p / 2 : Nat) : Int) := by omega
  obtain ⟨n, hn⟩ : ∃ n, n = p / 2 := ⟨_, rfl⟩
  rw [← hn] at H hq hr ⊢
  have hr1 : ¬ ((cat n : Int) ≤ (r : Int)) := by omega
  have HC := Lib.hid (iCountPlane_yes p)
  rw [← hn] at HC
  obtain ⟨c, hc⟩ : ∃ c, c = cat n := ⟨_, rfl⟩
  rw [← hc] at hr1 hr HC
  have H1 : Hid (∀ W, Calls Try.prog 58 #[.int .i64 0, .int .i64 n, .int .i64 r] W _) := Lib.hid (fun W => H.out W (by omega) (by omega) (by omega) (by rw [← hc]; exact hr))
  clear hn hc H hr
  go_enter Try.func23, Try.ntmps23
  go_wp2_with (first | (go_at_call 14; (with_reducible refine (HC.out _ hp).mono ?_); rintro e w1 ⟨rfl, hb1⟩) | (go_at_call 58; (with_reducible refine (H1.out _).mono ?_); rintro e w2 ⟨v, rfl, hp2, hb2⟩; have HP2 := Lib.hid hp2; have HB2 := Lib.hid hb2; clear hp2 hb2))
  go_ret2
  exact ⟨_, rfl, HP2.out.wider hb1.size (Nat.le_refl _), hb1.trans (HB2.out.mono hb1.size)⟩

set_option maxHeartbeats 1000000 in
theorem cdOfRank_step (f a n r u P : Nat) (wv : Value) (B T : Nat) (w : World) (hP : 2 * n ≤ P) (hP30 : P ≤ 30) (hI : IntsIn 3 w B T wv (waysL P (P / 2 + 1) 0)) (hT : T ≤ w.heap.size) (hn0 : 0 < n) (hn : n ≤ 15) (hf : n ≤ f + 1) (ha : a + 2 * n ≤ 60) (h1 : catSum n u ≤ r) (h2 : r < catSum n (u + 1)) (hu : u < n)
    (ih : ∀ a' n' r' W, IntsIn 3 W B T wv (waysL P (P / 2 + 1) 0) → T ≤ W.heap.size → n' < n → a' + 2 * n' ≤ 60 → r' < cat n' → Calls Try.prog 57 #[.int .i64 (a' : Nat), .int .i64 (2 * n' : Nat), .int .i64 (r' : Nat), wv] W fun e w' => ∃ v, e = .returned v ∧ PairsIn 62 w' W.heap.size w'.heap.size v (ofRank f a' n' r') ∧ Below W.heap.size W w') :
    Calls Try.prog 57 #[.int .i64 a, .int .i64 (2 * n : Nat), .int .i64 r, wv] w fun e w' => ∃ v, e = .returned v ∧ PairsIn 62 w' w.heap.size w'.heap.size v (ofRank (f + 1) a n r) ∧ Below w.heap.size w w' := by
  have HO := Lib.hid (ofRank_step f a n r u hn0 h1 h2 (by omega))
  have IH := Lib.hid ih
  have HI := Lib.hid hI
  obtain ⟨a0, cap, g, rfl, hga, _, hml, _, hcell, _⟩ := hI.1.view
  rw [waysL_length] at *
  obtain rfl := hga (by omega)
  have HCL := Lib.hid hcell
  obtain ⟨nn, hnn⟩ : ∃ m, m = 2 * n := ⟨_, rfl⟩
  rw [← hnn]
  have HNN := Lib.hid hnn
  have hr := catSum_le n (u + 1) (by omega) hn0 (by omega)
  have H1 := Lib.hid h1
  have H2 := Lib.hid h2
  have e0 : ((nn : Int) == 0) = false := by rw [beq_eq_false_iff_ne]; omega
  clear ih hcell hga hnn hI
  go_enter Try.func57, Try.ntmps57
  go_wp2
  go_loopw [2, 9] (fun rk kv wr => ∃ t q d : Nat, t ≤ u ∧ kv = .int .i64 (2 * t + 1 : Nat) ∧ q + catSum n t = r ∧ rk = .int .i64 q ∧ wr = w.drewN d) (fun _ kv _ => 2 * u + 2 - (intOf kv).toNat)
  case atStart => exact ⟨0, r, 0, by omega, rfl, rfl, rfl, rfl⟩
  case round =>
    obtain ⟨t, q, d, ht, rfl, hq, rfl, rfl⟩ := hrel
    have hm := cat_mul n t (by omega) hn
    have hs : catSum n (t + 1) = catSum n t + cat t * cat (n - 1 - t) := rfl
    obtain ⟨kk, hkk⟩ : ∃ k, k = 2 * t + 1 := ⟨_, rfl⟩
    obtain ⟨q1, hq1⟩ : ∃ k, k = 2 * t := ⟨_, rfl⟩
    obtain ⟨q2, hq2⟩ : ∃ k, k = 2 * (n - 1 - t) := ⟨_, rfl⟩
    obtain ⟨q3, hq3⟩ : ∃ k, k = nn - 1 := ⟨_, rfl⟩
    rw [← hkk]
    have hnn := HNN.out
    have e1 : IntKind.i64.wrap ((kk : Int) - 1) = (q1 : Int) := by rw [IntKind.wrap_i64]; omega
    have e3 : IntKind.i64.wrap ((nn : Int) - 1) = (q3 : Int) := by rw [IntKind.wrap_i64]; omega
    have e2 : IntKind.i64.wrap ((q3 : Int) - (kk : Int)) = (q2 : Int) := by rw [IntKind.wrap_i64]; omega
    have x1 := HCL.out q1 (by omega)
    have x2 := HCL.out q2 (by omega)
    rw [waysL_get _ _ _ _ (by omega), if_pos (by omega), if_pos (by omega), show q1 / 2 = t by omega] at x1
    rw [waysL_get _ _ _ _ (by omega), if_pos (by omega), if_pos (by omega), show q2 / 2 = n - 1 - t by omega] at x2
    have b1 := cat_le t (by omega)
    have b2 := cat_le (n - 1 - t) (by omega)
    obtain ⟨ca, hca⟩ : ∃ c, c = cat t := ⟨_, rfl⟩
    obtain ⟨cb, hcb⟩ : ∃ c, c = cat (n - 1 - t) := ⟨_, rfl⟩
    rw [← hca] at x1 b1 hm hs
    rw [← hcb] at x2 b2 hm hs
    obtain ⟨m, hmm⟩ : ∃ m, m = ca * cb := ⟨_, rfl⟩
    rw [← hmm] at hm hs
    have hw : IntKind.i64.wrap ((ca : Int) * (cb : Int)) = (m : Int) := by
      have h1 : (ca : Int) * (cb : Int) = (m : Int) := by rw [hmm]; push_cast; rfl
      rw [h1, IntKind.wrap_i64]; omega
    have k1 : (kk : Int) < (nn : Int) := by omega
    have k2 : (nn : Int) ≤ 30 := by omega
    have k3 : (q1 : Int) < (P : Int) + 1 := by omega
    have k4 : (q2 : Int) < (P : Int) + 1 := by omega
    have k5 : 0 ≤ (kk : Int) := by omega
    have HMM := Lib.hid hmm
    have HKK := Lib.hid hkk
    have HQ1 := Lib.hid hq1
    have HQ2 := Lib.hid hq2
    have HCA := Lib.hid hca
    have HCB := Lib.hid hcb
    have HQ := Lib.hid hq
    have HS := Lib.hid hs
    by_cases htu : t = u
    · subst htu
      have hg : (q : Int) < (m : Int) := by have := H1.out; have := H2.out; omega
      have hq0 : q = r - catSum n t := by omega
      have hqb : q ≤ 9694845 := by have := H2.out; omega
      obtain ⟨v, hv⟩ : ∃ v, v = n - 1 - t := ⟨_, rfl⟩
      obtain ⟨b, hb⟩ : ∃ b, b = a + 2 * t + 1 := ⟨_, rfl⟩
      obtain ⟨y1, hy1⟩ : ∃ c, c = q / cb := ⟨_, rfl⟩
      obtain ⟨y2, hy2⟩ : ∃ c, c = q % cb := ⟨_, rfl⟩
      rw [← hv] at hcb hq2
      have hr1 : y1 < cat t := by rw [hy1, ← hca]; exact (Nat.div_lt_iff_lt_mul (by omega)).2 (by omega)
      have hr2 : y2 < cat v := by rw [hy2, ← hcb]; exact Nat.mod_lt _ (by omega)
      have HOO := HO.out
      rw [← hq0, ← hv, ← hcb, ← hy1, ← hy2, ← hb, show a + 2 * t + 2 = b + 1 by omega] at HOO
      have HX := Lib.hid HOO
      have c1 := fun W (hB : Below w.heap.size w W) => IH.out (a + 1) t y1 W (HI.out.keep (belowSame hB hT)) (Nat.le_trans hT hB.size) (by omega) (by omega) hr1
      have c2 := fun W (hB : Below w.heap.size w W) => IH.out (b + 1) v y2 W (HI.out.keep (belowSame hB hT)) (Nat.le_trans hT hB.size) (by omega) (by omega) hr2
      rw [← hq1] at c1
      rw [← hq2] at c2
      have C1 : Hid (∀ W, Below w.heap.size w W → Calls Try.prog 57 #[.int .i64 ((a : Int) + 1), .int .i64 (q1 : Int), .int .i64 (y1 : Int), .slice (some ⟨g, 0, none⟩) (P + 1) cap] W _) := Lib.hid c1
      have C2 : Hid (∀ W, Below w.heap.size w W → Calls Try.prog 57 #[.int .i64 ((b : Int) + 1), .int .i64 (q2 : Int), .int .i64 (y2 : Int), .slice (some ⟨g, 0, none⟩) (P + 1) cap] W _) := Lib.hid c2
      have l1 := ofRank_length f (a + 1) t y1 (by omega) (by omega) hr1
      have l2 := ofRank_length f (b + 1) v y2 (by omega) (by omega) hr2
      obtain ⟨ys, hys⟩ : ∃ l, l = ofRank f (a + 1) t y1 := ⟨_, rfl⟩
      obtain ⟨zs, hzs⟩ : ∃ l, l = ofRank f (b + 1) v y2 := ⟨_, rfl⟩
      rw [← hys] at HX C1 l1
      rw [← hzs] at HX C2 l2
      have hn1 : ([((a : Int), (b : Int))] : List (Int × Int)).length + ys.length ≤ 1000000000 := by simp; omega
      have hn2 : ([((a : Int), (b : Int))] ++ ys : List (Int × Int)).length + zs.length ≤ 1000000000 := by simp; omega
      have HN1 := Lib.hid hn1
      have HN2 := Lib.hid hn2
      have e4 : (a : Int) + (kk : Int) = (b : Int) := by omega
      have e5 : (q : Int) / (cb : Int) = (y1 : Int) := by rw [hy1]; norm_cast
      have e7 : Int.tmod (q : Int) (cb : Int) = (y2 : Int) := by rw [Int.tmod_eq_emod_of_nonneg (by omega), hy2]; norm_cast
      have e6 : (q : Int) % (cb : Int) = (y2 : Int) := by rw [hy2]; norm_cast
      have e8 : ¬ (cb : Int) = 0 := by omega
      have e9 : ¬ cb = 0 := by omega
      have m1 := Nat.div_le_self q cb
      have m2 := Nat.mod_le q cb
      rw [← hy1] at m1
      rw [← hy2] at m2
      have k6 : (b : Int) ≤ 60 := by omega
      clear hn1 hn2 c1 c2 hq hs h1 h2 hkk hq1 hq2 hq3 hca hcb hmm hnn hq0 hv hb hy1 hy2 hr1 hr2 HOO l1 l2 hys hzs hm hr HO IH
      go_wp2
      go_quiet (fail)
      go_wp2_with (first
        | (go_at_call 57; (with_reducible refine (C1.out _ ((bdn (Below.refl _ _) _).alloc (by simp) _)).mono ?_); rintro e w1 ⟨v1, rfl, hp1, hb1⟩; obtain ⟨u1, z1, rfl⟩ := hp1.pairs.src.form; (have HP1 := Lib.hid hp1.pairs.src); (have B1 : Below w.heap.size w w1 := Below.trans ((bdn (Below.refl _ _) _).alloc (by simp) _) (hb1.mono (by simp))); (have PB := Lib.hid ((Pairs.boxed (w.drewN (d + nq)) w.heap.size 62 [((a : Int), (b : Int))] (by simp) (by simp)).later hb1)); (have z1 := B1.size); clear hp1 hb1)
        | (at_builtin; refine wpList_append_pairs rfl _ _ 31 rfl w.heap.size 62 Try.underlying31 info_chord _ _ [((a : Int), (b : Int))] ys rfl rfl PB.out HP1.out HN1.out z1 ?_; intro v2 w2 hI2 hg2 _; have HQ2 := Lib.hid hI2; have B2 := Pairs.below PB.out B1 z1 hg2; have z2 := B2.size; clear hI2 hg2)
        | (go_at_call 57; (with_reducible refine (C2.out _ B2).mono ?_); rintro e w3 ⟨v3, rfl, hp3, hb3⟩; obtain ⟨u3, z3, rfl⟩ := hp3.pairs.src.form; (have HP3 := Lib.hid hp3.pairs.src); (have B3 := B2.trans (hb3.mono z2)); (have PB3 := Lib.hid (HQ2.out.later hb3)); (have z4 := B3.size); clear hp3 hb3)
        | (at_builtin; refine wpList_append_pairs rfl _ _ 31 rfl w.heap.size 62 Try.underlying31 info_chord _ _ ([((a : Int), (b : Int))] ++ ys) zs rfl rfl PB3.out HP3.out HN2.out z4 ?_; intro v4 w4 hI4 hg4 _; have HQ4 := Lib.hid hI4; have B4 := Pairs.below PB3.out B3 z4 hg4; clear hI4 hg4))
      go_ret
      refine ⟨_, rfl, ?_, B4⟩
      rw [HX.out]
      have h9 := HQ4.out.inn
      simpa using h9
    · have hmono := catSum_mono n (t + 1) u (by omega)
      have hg : ¬ ((q : Int) < (m : Int)) := by have := H1.out; omega
      have hw2 : IntKind.i64.wrap ((q : Int) - (m : Int)) = ((q - m : Nat) : Int) := by rw [IntKind.wrap_i64]; have := H2.out; omega
      have hqn : q - m + catSum n (t + 1) = r := by have := H1.out; omega
      have HQN := Lib.hid hqn
      clear hq hs h1 h2 hmono hkk hq1 hq2 hq3 hca hcb hmm hnn hqn
      go_wp2
      go_quiet (fail)
      go_wp2
      go_roundw
      case rel => exact ⟨t + 1, q - m, _, by omega, by rw [show 2 * (t + 1) + 1 = kk + 2 by (have := HKK.out; omega)]; go_num, HQN.out, rfl, rfl⟩
      case measure => simp [intOf]; have := HKK.out; omega

end Go.Proofs.Ytenkokkhdcjcaab
