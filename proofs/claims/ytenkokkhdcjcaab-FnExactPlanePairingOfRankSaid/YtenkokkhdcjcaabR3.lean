/- Plane pairings by their ranks: the program. -/
import Derived.Test.YtenkokkhdcjcaabR2
import Derived.Test.YtenkokkhdcjcaabQ2
import Derived.Test.YtenkokkhdcjcaabKC
namespace Go.Proofs.Ytenkokkhdcjcaab
open Go.RowKit
set_option linter.unusedVariables false

theorem cat_mul (n u : Nat) (h : u < n) (hn : n ≤ 15) : cat u * cat (n - 1 - u) ≤ 9694845 ∧ 1 ≤ cat u * cat (n - 1 - u) := by
  have h1 := catSum_le n (u + 1) (by omega) (by omega) (by omega)
  have h2 : catSum n (u + 1) = catSum n u + cat u * cat (n - 1 - u) := rfl
  have h3 := cat_le u (by omega)
  have h4 := cat_le (n - 1 - u) (by omega)
  have h5 : 1 * 1 ≤ cat u * cat (n - 1 - u) := Nat.mul_le_mul h3.1 h4.1
  omega

set_option maxHeartbeats 400000 in
theorem cpw_any (n u : Nat) (w : World) (h : u < n) (hn : n ≤ 15) :
    Calls Try.prog 85 #[.int .i64 n, .int .i64 u] w fun e w' => e = .returned (.int .i64 (cat u * cat (n - 1 - u) : Nat)) ∧ w = w' := by
  have hb := cat_mul n u h hn
  obtain ⟨v, hv⟩ : ∃ v, v = n - 1 - u := ⟨_, rfl⟩
  rw [← hv] at hb ⊢
  obtain ⟨ca, hca⟩ : ∃ c, c = cat u := ⟨_, rfl⟩
  obtain ⟨cb, hcb⟩ : ∃ c, c = cat v := ⟨_, rfl⟩
  rw [← hca, ← hcb] at hb ⊢
  obtain ⟨m, hm⟩ : ∃ m, m = ca * cb := ⟨_, rfl⟩
  rw [← hm] at hb ⊢
  have hw : IntKind.i64.wrap ((ca : Int) * (cb : Int)) = (m : Int) := by
    have h1 : (ca : Int) * (cb : Int) = (m : Int) := by rw [hm]; push_cast; rfl
    rw [h1, IntKind.wrap_i64]; omega
  have h1 : IntKind.i64.wrap ((n : Int) - 1) = (n : Int) - 1 := by rw [IntKind.wrap_i64]; omega
  have h2 : IntKind.i64.wrap ((n : Int) - 1 - (u : Int)) = (v : Int) := by rw [IntKind.wrap_i64]; omega
  have C1 := Lib.hid (fun W => countPlane_any u W (by omega))
  have C2 := Lib.hid (fun W => countPlane_any v W (by omega))
  rw [← hca] at C1
  rw [← hcb] at C2
  clear hv hca hcb hm
  go_enter Try.func85, Try.ntmps85
  go_wp2_with (first | (go_at_call 47; (with_reducible refine (C1.out _).mono ?_); rintro e w1 ⟨rfl, rfl⟩) | (go_at_call 47; (with_reducible refine (C2.out _).mono ?_); rintro e w1 ⟨rfl, rfl⟩))
  go_ret
  exact ⟨rfl, rfl⟩

theorem concat3 (W : World) (h : Nat) (hh : h = W.heap.size) (v0 v1 v2 : Value) (xs0 xs1 xs2 : List (Int × Int)) (s0 : SrcP W v0 xs0) (s1 : SrcP W v1 xs1) (s2 : SrcP W v2 xs2) (hl : xs0.length + xs1.length + xs2.length ≤ 1000000) :
    Calls Try.prog 86 #[.slice (some ⟨h, 0, none⟩) 3 3] (W.alloc (.cells #[v0, v1, v2] 31))
      fun e w' => ∃ v, e = .returned v ∧ PairsIn 62 w' W.heap.size w'.heap.size v (xs0 ++ (xs1 ++ xs2)) ∧ Below W.heap.size W w' := by
  subst hh
  have hb : Below W.heap.size W (W.alloc (.cells #[v0, v1, v2] 31)) := (Below.refl _ _).alloc (Nat.le_refl _) _
  refine (concat_any W.heap.size 3 [v0, v1, v2] [xs0, xs1, xs2] _ rfl (by omega) (cells_of (cs := #[v0, v1, v2]) (t := 31) (fr := (0, 0)) (heap_alloc_new W _)) ?_ (by simp; omega)).mono ?_
  · intro i hi
    match i, hi with
    | 0, _ => exact s0.later hb
    | 1, _ => exact s1.later hb
    | 2, _ => exact s2.later hb
  · rintro e w' ⟨v, rfl, hp, hb2⟩
    refine ⟨v, rfl, ?_, hb.trans (hb2.mono hb.size)⟩
    have h3 : PairsIn 62 w' W.heap.size w'.heap.size v _ := hp.wider hb.size (Nat.le_refl _)
    simpa using h3

theorem src_box (W : World) (h : Nat) (hh : h = W.heap.size) (a b : Int) : SrcP (W.alloc (.cells #[.int .i64 a, .int .i64 b] 62)) (.slice (some ⟨h, 0, none⟩) 1 1) [(a, b)] := by
  subst hh
  exact (Pairs.boxed W W.heap.size 62 [(a, b)] (Nat.le_refl _) (by simp)).src

theorem SrcP.drew {w : World} {v : Value} {xs : List (Int × Int)} (h : SrcP w v xs) : SrcP w.drew v xs := h

theorem below_alloc (W : World) (o : Obj) : Below W.heap.size W (W.alloc o) := (Below.refl _ _).alloc (Nat.le_refl _) o

set_option maxHeartbeats 1000000 in
set_option maxRecDepth 100000 in
theorem planeFrom_step (f a n r u : Nat) (w : World) (hn0 : 0 < n) (hn : n ≤ 15) (hf : n ≤ f + 1) (ha : a + 2 * n ≤ 60) (h1 : catSum n u ≤ r) (h2 : r < catSum n (u + 1)) (hu : u < n)
    (ih : ∀ a' n' r' W, n' < n → a' + 2 * n' ≤ 60 → r' < cat n' → Calls Try.prog 58 #[.int .i64 a', .int .i64 n', .int .i64 r'] W fun e w' => ∃ v, e = .returned v ∧ PairsIn 62 w' W.heap.size w'.heap.size v (ofRank f a' n' r') ∧ Below W.heap.size W w') :
    Calls Try.prog 58 #[.int .i64 a, .int .i64 n, .int .i64 r] w fun e w' => ∃ v, e = .returned v ∧ PairsIn 62 w' w.heap.size w'.heap.size v (ofRank (f + 1) a n r) ∧ Below w.heap.size w w' := by
  have HO := Lib.hid (ofRank_step f a n r u hn0 h1 h2 (by omega))
  have IH := Lib.hid ih
  have e0 : ((n : Int) == 0) = false := by rw [beq_eq_false_iff_ne]; omega
  have hr := catSum_le n (u + 1) (by omega) hn0 (by omega)
  have H1 := Lib.hid h1
  have H2 := Lib.hid h2
  clear ih
  go_enter Try.func58, Try.ntmps58
  go_wp2
  go_loop [2, 7] (fun rk un => ∃ t q : Nat, t ≤ u ∧ un = .int .i64 t ∧ q + catSum n t = r ∧ rk = .int .i64 q) (fun _ un => u - (intOf un).toNat)
  case atStart => exact ⟨0, r, by omega, rfl, rfl, rfl⟩
  case round =>
    obtain ⟨t, q, ht, rfl, hq, rfl⟩ := hrel
    have hm := cat_mul n t (by omega) hn
    have hs : catSum n (t + 1) = catSum n t + cat t * cat (n - 1 - t) := rfl
    have C := Lib.hid (fun W => cpw_any n t W (by omega) hn)
    obtain ⟨m, hmm⟩ : ∃ m, m = cat t * cat (n - 1 - t) := ⟨_, rfl⟩
    rw [← hmm] at hm hs C
    have HMM := Lib.hid hmm
    clear hmm
    by_cases htu : t = u
    · subst htu
      have hg : ¬ ((m : Int) ≤ (q : Int)) := by have := H1.out; have := H2.out; omega
      have hq0 : q = r - catSum n t := by omega
      obtain ⟨v, hv⟩ : ∃ v, v = n - 1 - t := ⟨_, rfl⟩
      obtain ⟨b, hb⟩ : ∃ b, b = a + 2 * t + 1 := ⟨_, rfl⟩
      obtain ⟨cv, hcv⟩ : ∃ c, c = cat v := ⟨_, rfl⟩
      have hcv2 := cat_le v (by omega)
      rw [← hcv] at hcv2
      have hqb : q ≤ 9694845 := by have := H2.out; omega
      obtain ⟨q1, hq1⟩ : ∃ c, c = q / cv := ⟨_, rfl⟩
      obtain ⟨q2, hq2⟩ : ∃ c, c = q % cv := ⟨_, rfl⟩
      have HMO := HMM.out
      rw [← hv, ← hcv] at HMO
      have hr1 : q1 < cat t := by rw [hq1]; exact (Nat.div_lt_iff_lt_mul (by omega)).2 (by omega)
      have hr2 : q2 < cat v := by rw [hq2, ← hcv]; exact Nat.mod_lt _ (by omega)
      have HOO := HO.out
      rw [← hq0, ← hv, ← hcv, ← hq1, ← hq2, ← hb, show a + 2 * t + 2 = b + 1 by omega] at HOO
      have HX := Lib.hid HOO
      have c1 := fun W => IH.out (a + 1) t q1 W (by omega) (by omega) hr1
      have c2 := fun W => IH.out (b + 1) v q2 W (by omega) (by omega) hr2
      have C1 : Hid (∀ W, Calls Try.prog 58 #[.int .i64 ((a : Int) + 1), .int .i64 (t : Int), .int .i64 (q1 : Int)] W _) := Lib.hid c1
      have C2 : Hid (∀ W, Calls Try.prog 58 #[.int .i64 ((b : Int) + 1), .int .i64 (v : Int), .int .i64 (q2 : Int)] W _) := Lib.hid c2
      have e3 : IntKind.i64.wrap ((a : Int) + 1) = (a : Int) + 1 := by rw [IntKind.wrap_i64]; omega
      have e4 : IntKind.i64.wrap ((b : Int) + 1) = (b : Int) + 1 := by rw [IntKind.wrap_i64]; omega
      have e10 : IntKind.i64.wrap (q1 : Int) = (q1 : Int) := by rw [IntKind.wrap_i64]; have := Nat.div_le_self q cv; omega
      have e11 : IntKind.i64.wrap (q2 : Int) = (q2 : Int) := by rw [IntKind.wrap_i64]; have := Nat.mod_le q cv; omega
      have CV := Lib.hid (fun W => countPlane_any v W (by omega))
      rw [← hcv] at CV
      have l1 := ofRank_length f (a + 1) t q1 (by omega) (by omega) hr1
      have l2 := ofRank_length f (b + 1) v q2 (by omega) (by omega) hr2
      obtain ⟨ys, hys⟩ : ∃ l, l = ofRank f (a + 1) t q1 := ⟨_, rfl⟩
      obtain ⟨zs, hzs⟩ : ∃ l, l = ofRank f (b + 1) v q2 := ⟨_, rfl⟩
      rw [← hys] at HX C1 l1
      rw [← hzs] at HX C2 l2
      have HL := Lib.hid (show ([((a : Int), (b : Int))] : List (Int × Int)).length + ys.length + zs.length ≤ 1000000 by simp; omega)
      have e1 : IntKind.i64.wrap ((n : Int) - 1 - (t : Int)) = (v : Int) := by rw [IntKind.wrap_i64]; omega
      have e2 : IntKind.i64.wrap ((a : Int) + 2 * (t : Int) + 1) = (b : Int) := by rw [IntKind.wrap_i64]; omega
      have e5 : (q : Int) / (cv : Int) = (q1 : Int) := by rw [hq1]; norm_cast
      have e6 : (q : Int) % (cv : Int) = (q2 : Int) := by rw [hq2]; norm_cast
      have e7 : Int.tmod (q : Int) (cv : Int) = (q2 : Int) := by rw [Int.tmod_eq_emod_of_nonneg (by omega)]; exact e6
      have e8 : ¬ (cv : Int) = 0 := by omega
      have e9 : ¬ cv = 0 := by omega
      clear c1 c2 hq hs hq0 h1 h2 hv hb hcv hq1 hq2 HMO hr1 hr2 HOO l1 l2 hys hzs hm hr HO IH
      go_wp2_with (first | (go_at_call 85; (with_reducible refine (C.out _).mono ?_); rintro e w1 ⟨rfl, rfl⟩))
      go_region_held3 (fun w' => w'.cell? ⟨w.heap.size, 0, none⟩ = some (.int .i64 a) ∧ w'.cell? ⟨w.heap.size, 1, none⟩ = some (.int .i64 b)) (go_keep)
        (first
          | (go_at_call 47; (with_reducible refine (CV.out _).mono ?_); rintro e wc ⟨rfl, rfl⟩)
          | (go_at_call 58; (with_reducible refine (C1.out _).mono ?_); rintro e w1 ⟨v1, rfl, hp1, hb1⟩; obtain ⟨x1, y1, rfl⟩ := hp1.pairs.src.form; (have k0 : w1.cell? ⟨w.heap.size, 0, none⟩ = some (.int .i64 a) := cellB hb1 (by first | assumption | go_simp)); (have k1 : w1.cell? ⟨w.heap.size, 1, none⟩ = some (.int .i64 b) := cellB hb1 (by first | assumption | go_simp)); have HP1 := Lib.hid hp1; have HB1 := Lib.hid hb1; clear hp1 hb1)
          | (go_at_call 58; (with_reducible refine (C2.out _).mono ?_); rintro e w2 ⟨v2, rfl, hp2, hb2⟩; obtain ⟨x2, y2, rfl⟩ := hp2.pairs.src.form; (have k2 : w2.cell? ⟨w.heap.size, 0, none⟩ = some (.int .i64 a) := cellB hb2 (by first | assumption | go_simp)); (have k3 : w2.cell? ⟨w.heap.size, 1, none⟩ = some (.int .i64 b) := cellB hb2 (by first | assumption | go_simp)); have HP2 := Lib.hid hp2; have HB2 := Lib.hid hb2; clear hp2 hb2)
          | (go_at_call 86; (have s0 : SrcP w2 (.slice (some ⟨w.heap.size + 1, 0, none⟩) 1 1) [((a : Int), (b : Int))] := ((src_box (w.alloc (.cells #[.int .i64 (a : Int), .int .i64 (b : Int)] 62)) (w.heap.size + 1) (by simp) a b).drew.later HB1.out).later HB2.out); (have s1 : SrcP w2 (.slice x1 ys.length y1) ys := HP1.out.pairs.src.later HB2.out); (have s2 : SrcP w2 (.slice x2 zs.length y2) zs := HP2.out.pairs.src); (with_reducible refine (concat3 w2 (w2.heap.size) rfl (.slice (some ⟨w.heap.size + 1, 0, none⟩) 1 1) (.slice x1 ys.length y1) (.slice x2 zs.length y2) [((a : Int), (b : Int))] ys zs s0 s1 s2 HL.out).mono ?_); rintro e w4 ⟨v4, rfl, hp4, hb4⟩; (have k4 : w4.cell? ⟨w.heap.size, 0, none⟩ = some (.int .i64 a) := cellB hb4 (by first | assumption | exact cellB (below_alloc _ _) (by assumption))); (have k5 : w4.cell? ⟨w.heap.size, 1, none⟩ = some (.int .i64 b) := cellB hb4 (by first | assumption | exact cellB (below_alloc _ _) (by assumption))); clear s0 s1 s2; have HP4 := Lib.hid hp4; have HB4 := Lib.hid hb4; clear hp4 hb4)
          | (go_at_call 86; (have s0 : SrcP w2 (.slice (some ⟨w1.heap.size, 0, none⟩) 1 1) [((a : Int), (b : Int))] := (src_box w1 w1.heap.size rfl a b).later HB2.out); (have s1 : SrcP w2 (.slice x1 ys.length y1) ys := (HP1.out.pairs.src.later (below_alloc _ _)).later HB2.out); (have s2 : SrcP w2 (.slice x2 zs.length y2) zs := HP2.out.pairs.src); (with_reducible refine (concat3 w2 (w2.heap.size) rfl (.slice (some ⟨w1.heap.size, 0, none⟩) 1 1) (.slice x1 ys.length y1) (.slice x2 zs.length y2) [((a : Int), (b : Int))] ys zs s0 s1 s2 HL.out).mono ?_); rintro e w4 ⟨v4, rfl, hp4, hb4⟩; (have k4 : w4.cell? ⟨w.heap.size, 0, none⟩ = some (.int .i64 a) := cellB hb4 (by first | assumption | exact cellB (below_alloc _ _) (by assumption))); (have k5 : w4.cell? ⟨w.heap.size, 1, none⟩ = some (.int .i64 b) := cellB hb4 (by first | assumption | exact cellB (below_alloc _ _) (by assumption))); clear s0 s1 s2; have HP4 := Lib.hid hp4; have HB4 := Lib.hid hb4; clear hp4 hb4)
          | (go_at_call 86; (have s0 : SrcP (w2.alloc (.cells #[.int .i64 (a : Int), .int .i64 (b : Int)] 62)) (.slice (some ⟨w2.heap.size, 0, none⟩) 1 1) [((a : Int), (b : Int))] := src_box w2 w2.heap.size rfl a b); (have s1 : SrcP (w2.alloc (.cells #[.int .i64 (a : Int), .int .i64 (b : Int)] 62)) (.slice x1 ys.length y1) ys := (HP1.out.pairs.src.later HB2.out).later (below_alloc _ _)); (have s2 : SrcP (w2.alloc (.cells #[.int .i64 (a : Int), .int .i64 (b : Int)] 62)) (.slice x2 zs.length y2) zs := HP2.out.pairs.src.later (below_alloc _ _)); (with_reducible refine (concat3 (w2.alloc (.cells #[.int .i64 (a : Int), .int .i64 (b : Int)] 62)) (w2.heap.size + 1) (by simp) (.slice (some ⟨w2.heap.size, 0, none⟩) 1 1) (.slice x1 ys.length y1) (.slice x2 zs.length y2) [((a : Int), (b : Int))] ys zs s0 s1 s2 HL.out).mono ?_); rintro e w4 ⟨v4, rfl, hp4, hb4⟩; (have k4 : w4.cell? ⟨w.heap.size, 0, none⟩ = some (.int .i64 a) := cellB hb4 (by first | assumption | exact cellB (below_alloc _ _) (by assumption))); (have k5 : w4.cell? ⟨w.heap.size, 1, none⟩ = some (.int .i64 b) := cellB hb4 (by first | assumption | exact cellB (below_alloc _ _) (by assumption))); clear s0 s1 s2; have HP4 := Lib.hid hp4; have HB4 := Lib.hid hb4; clear hp4 hb4))
      all_goals
        go_wp2
        go_ret
        have b1 : Below w.heap.size w w1 := Below.trans (by go_grown) (HB1.out.mono (by simp; try omega))
        have b2 : Below w.heap.size w w2 := by first | exact b1.trans (HB2.out.mono b1.size) | exact (b1.trans ((below_alloc w1 _).mono b1.size)).trans (HB2.out.mono (by have := b1.size; simp; omega))
        have b4 : Below w.heap.size w w4 := by first | exact b2.trans (HB4.out.mono b2.size) | exact (b2.trans ((below_alloc w2 _).mono b2.size)).trans (HB4.out.mono (by have := b2.size; simp; omega))
        refine ⟨v4, rfl, ?_, b4⟩
        rw [HX.out]
        exact HP4.out.wider (by have := b2.size; first | exact this | (simp; omega)) (Nat.le_refl _)
    · have hmono := catSum_mono n (t + 1) u (by omega)
      have hg : (m : Int) ≤ (q : Int) := by have := H1.out; omega
      have hw : IntKind.i64.wrap ((q : Int) - (m : Int)) = ((q - m : Nat) : Int) := by rw [IntKind.wrap_i64]; have := H2.out; omega
      have hq2 : q - m + catSum n (t + 1) = r := by omega
      have HQ := Lib.hid hq2
      clear hq hs hq2 h1 h2 hmono
      go_wp2_with (first | (go_at_call 85; (with_reducible refine (C.out _).mono ?_); rintro e w1 ⟨rfl, rfl⟩))
      go_round
      case rel => exact ⟨t + 1, q - m, by omega, by go_num, HQ.out, rfl⟩
      case measure => simp [intOf]; omega

end Go.Proofs.Ytenkokkhdcjcaab
