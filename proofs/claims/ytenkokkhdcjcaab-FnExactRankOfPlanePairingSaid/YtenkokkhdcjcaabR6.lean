/- The rank of a plane pairing: the program. -/
import Derived.Test.YtenkokkhdcjcaabR5
namespace Go.Proofs.Ytenkokkhdcjcaab
open Go.RowKit
set_option linter.unusedVariables false

/-- The slice v, wherever it lies, holds the pairs xs, in room for them. -/
def SrcC (w : World) (v : Value) (xs : List (Int × Int)) : Prop :=
  (v = .slice none 0 0 ∧ xs = []) ∨ ∃ (b off cap : Nat), v = .slice (some ⟨b, off, none⟩) xs.length cap ∧ xs.length ≤ cap ∧ cap ≤ maxLen ∧
    ∀ i, i < xs.length → w.cell? ⟨b, off + i * 2, none⟩ = some (.int .i64 (xs.getD i (0, 0)).1) ∧ w.cell? ⟨b, off + (i * 2 + 1), none⟩ = some (.int .i64 (xs.getD i (0, 0)).2)

theorem Pairs.srcC {w : World} {B : Nat} {e : TypeId} {v : Value} {xs : List (Int × Int)} (h : Pairs w B e v xs) : SrcC w v xs := by
  have h0 := h
  obtain ⟨hl, ⟨hv, hn⟩ | ⟨g, cap, cur, hv, hB, hg, hn, hm, hs, ht⟩⟩ := h0
  · exact .inl ⟨hv, List.eq_nil_of_length_eq_zero hn⟩
  · subst hv
    exact .inr ⟨g, 0, cap, rfl, hn, hm, fun i hi => ⟨by rw [Nat.zero_add]; exact h.cell0 i hi, by rw [Nat.zero_add]; exact h.cell1 i hi⟩⟩

theorem SrcC.drewN {w : World} {v : Value} {xs : List (Int × Int)} (h : SrcC w v xs) (n : Nat) : SrcC (w.drewN n) v xs := h

theorem srcC_sub {w : World} {b off cap i j c' : Nat} {a' : Option Addr} {xs : List (Int × Int)} (hm : cap ≤ maxLen) (hc : ∀ i, i < xs.length → w.cell? ⟨b, off + i * 2, none⟩ = some (.int .i64 (xs.getD i (0, 0)).1) ∧ w.cell? ⟨b, off + (i * 2 + 1), none⟩ = some (.int .i64 (xs.getD i (0, 0)).2))
    (hij : i ≤ j) (hj : j ≤ xs.length) (hl : xs.length ≤ cap) (ha : a' = if cap = i then some ⟨b, off, none⟩ else some ⟨b, off + i * 2, none⟩) (hc' : c' = cap - i) {n : Nat} (hn : n = j - i) :
    SrcC w (.slice a' n c') ((xs.take j).drop i) := by
  subst hc' hn
  have hlen : ((xs.take j).drop i).length = j - i := by simp; omega
  by_cases e : cap = i
  · rw [if_pos e] at ha
    subst ha
    exact .inr ⟨b, off, _, by rw [hlen], by omega, by omega, fun k hk => by omega⟩
  · rw [if_neg e] at ha
    subst ha
    refine .inr ⟨b, off + i * 2, _, by rw [hlen], by omega, by omega, fun k hk => ?_⟩
    rw [hlen] at hk
    have := hc (i + k) (by omega)
    rw [getD_drop, getD_take _ _ _ _ (by omega)]
    rw [show off + i * 2 + k * 2 = off + (i + k) * 2 by omega, show off + i * 2 + (k * 2 + 1) = off + ((i + k) * 2 + 1) by omega]
    exact this

theorem drewN_add (w : World) (m n : Nat) : (w.drewN m).drewN n = w.drewN (m + n) := by simp

/-- A callee that only draws, behind draws. -/
theorem onlyDraws {P : Program} {f : FuncId} {args : Array Value} {w : World} {q k : Nat} {v : Value} (h : ∀ W : World, W = w.drewN (q + k) → Calls P f args W fun e w' => e = .returned v ∧ ∃ m, w' = W.drewN m) :
    Calls P f args (w.drewN (q + k)) fun e w'' => e = .returned v ∧ ∃ m, w'' = w.drewN (q + m) := by
  refine (h _ rfl).mono ?_
  rintro e w' ⟨he, m, rfl⟩
  exact ⟨he, k + m, by rw [drewN_add, Nat.add_assoc]⟩

theorem noDraws {P : Program} {f : FuncId} {args : Array Value} {w : World} {q k : Nat} {v : Value} (h : ∀ W : World, Calls P f args W fun e w' => e = .returned v ∧ W = w') :
    Calls P f args (w.drewN (q + k)) fun e w'' => e = .returned v ∧ ∃ m, w'' = w.drewN (q + m) := by
  refine (h _).mono ?_
  rintro e w' ⟨he, rfl⟩
  exact ⟨he, k, rfl⟩

set_option maxHeartbeats 400000 in
theorem rankOf_nil (a0 : Option Addr) (cap : Nat) (w : World) :
    Calls Try.prog 62 #[.slice a0 0 cap] w fun e w' => e = .returned (.int .i64 0) ∧ ∃ m, w' = w.drewN m := by
  go_enter Try.func62, Try.ntmps62
  go_wp2
  go_ret
  exact ⟨rfl, 0, rfl⟩

set_option maxHeartbeats 1000000 in
theorem rankOf_step (f a u v b off cap : Nat) (ys zs : List (Int × Int)) (w : World) (hy : Plan (a + 1) u ys) (hz : Plan (a + 2 * u + 2) v zs) (hn : u + 1 + v ≤ 15) (hf : u + 1 + v ≤ f + 1) (ha : a ≤ 60) (hl : u + 1 + v ≤ cap) (hm : cap ≤ maxLen)
    (hc : ∀ i, i < u + 1 + v → w.cell? ⟨b, off + i * 2, none⟩ = some (.int .i64 ((((a : Int), ((a + 2 * u + 1 : Nat) : Int)) :: (ys ++ zs)).getD i (0, 0)).1) ∧ w.cell? ⟨b, off + (i * 2 + 1), none⟩ = some (.int .i64 ((((a : Int), ((a + 2 * u + 1 : Nat) : Int)) :: (ys ++ zs)).getD i (0, 0)).2))
    (ih : ∀ a' n' xs' v' W, Plan a' n' xs' → n' < u + 1 + v → a' + 2 * n' ≤ a + 2 * (u + 1 + v) → SrcC W v' xs' → Calls Try.prog 62 #[v'] W fun e w' => e = .returned (.int .i64 (rankP f xs' : Nat)) ∧ ∃ m, w' = W.drewN m) :
    Calls Try.prog 62 #[.slice (some ⟨b, off, none⟩) (u + 1 + v) cap] w fun e w' => e = .returned (.int .i64 (rankP (f + 1) (((a : Int), ((a + 2 * u + 1 : Nat) : Int)) :: (ys ++ zs)) : Nat)) ∧ ∃ m, w' = w.drewN m := by
  have c0 := hc 0 (by omega)
  simp only [List.getD_cons_zero, Nat.zero_mul, Nat.zero_add, Nat.add_zero] at c0
  obtain ⟨cA, cB⟩ := c0
  obtain ⟨n, hnn⟩ : ∃ n, n = u + 1 + v := ⟨_, rfl⟩
  obtain ⟨bb, hbb⟩ : ∃ n, n = a + 2 * u + 1 := ⟨_, rfl⟩
  have hrk := rankP_cons f a u v ys zs hy.len hz.len
  rw [← hnn] at hn hf hl ih ⊢
  rw [← hbb] at cB ⊢
  rw [← hbb, ← hnn] at hrk
  have e1 : IntKind.i64.wrap ((bb : Int) - (a : Int)) = ((2 * u + 1 : Nat) : Int) := by rw [IntKind.wrap_i64]; omega
  have e2 : ((2 * u + 1 : Nat) : Int) / 2 = (u : Int) := by omega
  have e3 : Int.tdiv ((2 * u + 1 : Nat) : Int) 2 = (u : Int) := by rw [Int.tdiv_eq_ediv_of_nonneg (by omega)]; exact e2
  have e4 : IntKind.i64.wrap ((n : Int) - 1 - (u : Int)) = (v : Int) := by rw [IntKind.wrap_i64]; omega
  have e5 : IntKind.i64.wrap (u : Int) = (u : Int) := by rw [IntKind.wrap_i64]; omega
  have hn0 : 0 < n := by omega
  have hu1 : u < n := by omega
  have hv1 : v < n := by omega
  have e6 : ((n : Int) == 0) = false := by rw [beq_eq_false_iff_ne]; omega
  have HC := Lib.hid hc
  have IH := Lib.hid ih
  have HNN := Lib.hid hnn
  have HBB := Lib.hid hbb
  have HRK := Lib.hid hrk
  obtain ⟨d, hd⟩ : ∃ n, n = 2 * u + 1 := ⟨_, rfl⟩
  rw [← hd] at e1 e2 e3
  have hdd : d ≤ 31 := by omega
  clear hc ih hnn hbb hrk hd
  go_enter Try.func62, Try.ntmps62
  go_wp2
  go_quiet (fail)
  go_wp2
  have hcs := catSum_le n u (by omega) (by omega) (by omega)
  go_loop [5, 26] (fun rk i => ∃ t : Nat, t ≤ u ∧ i = .int .i64 t ∧ rk = .int .i64 (catSum n t : Nat)) (fun _ i => u - (intOf i).toNat)
  case atStart => exact ⟨0, by omega, rfl, rfl⟩
  case round =>
    obtain ⟨t, ht, rfl, rfl⟩ := hrel
    by_cases htu : t < u
    · have hm1 := cat_mul n t (by omega) hn
      have hs : catSum n (t + 1) = catSum n t + cat t * cat (n - 1 - t) := rfl
      have C := Lib.hid (fun W => cpw_any n t W (by omega) hn)
      obtain ⟨m, hmm⟩ : ∃ m, m = cat t * cat (n - 1 - t) := ⟨_, rfl⟩
      rw [← hmm] at hm1 hs C
      have hmono := catSum_mono n t u (by omega)
      obtain ⟨c, hcc⟩ : ∃ c, c = catSum n t := ⟨_, rfl⟩
      rw [← hcc] at hs hmono ⊢
      have HS := Lib.hid hs
      have hw : IntKind.i64.wrap ((c : Int) + (m : Int)) = ((c + m : Nat) : Int) := by rw [IntKind.wrap_i64]; omega
      clear hmm hs hcc
      go_wp2_with (first | (go_at_call 85; (with_reducible refine (C.out _).mono ?_); rintro e w1 ⟨rfl, rfl⟩))
      go_round
      case rel => exact ⟨t + 1, by omega, by go_num, by rw [HS.out]; go_num⟩
      case measure => simp [intOf]; omega
    · obtain rfl : t = u := by omega
      have hlt := rankP_lt (Plan.cons a t v ys zs hy hz) (f + 1) (by have := HNN.out; omega) (by have := HNN.out; omega)
      rw [← HBB.out, ← HNN.out] at hlt
      have hrk := HRK.out
      have hcn := cat_le n (by omega)
      have hcv := cat_le v (by have := HNN.out; omega)
      have CV := Lib.hid (fun W => countPlane_any v W (by have := HNN.out; omega))
      obtain ⟨rk, hrk0⟩ : ∃ r, r = catSum n t := ⟨_, rfl⟩
      obtain ⟨cv, hcv0⟩ : ∃ r, r = cat v := ⟨_, rfl⟩
      obtain ⟨y1, hy1⟩ : ∃ r, r = rankP f ys := ⟨_, rfl⟩
      obtain ⟨y2, hy2⟩ : ∃ r, r = rankP f zs := ⟨_, rfl⟩
      obtain ⟨tot, htot⟩ : ∃ r, r = rankP (f + 1) (((a : Int), (bb : Int)) :: (ys ++ zs)) := ⟨_, rfl⟩
      rw [← htot, ← hrk0, ← hcv0, ← hy1, ← hy2] at hrk
      rw [← hrk0]
      rw [← htot] at hlt
      rw [← hcv0] at hcv CV
      obtain ⟨m, hmm⟩ : ∃ m, m = y1 * cv := ⟨_, rfl⟩
      rw [← hmm] at hrk
      have g1 : IntKind.i64.wrap ((y1 : Int) * (cv : Int)) = (m : Int) := by
        have h1 : (y1 : Int) * (cv : Int) = (m : Int) := by rw [hmm]; push_cast; rfl
        rw [h1, IntKind.wrap_i64]; omega
      have g2 : IntKind.i64.wrap ((rk : Int) + (m : Int)) = ((rk + m : Nat) : Int) := by rw [IntKind.wrap_i64]; omega
      obtain ⟨s, hs⟩ : ∃ s, s = rk + m := ⟨_, rfl⟩
      rw [← hs] at g2
      have g3 : IntKind.i64.wrap ((s : Int) + (y2 : Int)) = (tot : Int) := by rw [IntKind.wrap_i64]; omega
      have t1 : IntKind.i64.wrap (1 + (t : Int)) = 1 + (t : Int) := by rw [IntKind.wrap_i64]; omega
      have t2 : (1 + (t : Int)).toNat = 1 + t := by omega
      have t3 : 0 ≤ 1 + (t : Int) := by omega
      have t4 : 1 ≤ 1 + (t : Int) := by omega
      have t7 : 0 ≤ (t : Int) := by omega
      have HTOT := Lib.hid htot
      have k1 : 1 + (t : Int) ≤ (cap : Int) := by have := HNN.out; omega
      have k2 : 1 + (t : Int) ≤ (n : Int) := by have := HNN.out; omega
      have k4 : (n : Int) ≤ (cap : Int) := by omega
      have V1 : SrcC w (.slice (if cap = 1 then some ⟨b, off, none⟩ else some ⟨b, off + 2, none⟩) t (cap - 1)) ys := by
        have h := srcC_sub (w := w) (b := b) (off := off) (cap := cap) (i := 1) (j := 1 + t) (c' := cap - 1) (xs := ((a : Int), ((a + 2 * t + 1 : Nat) : Int)) :: (ys ++ zs)) hm (fun i hi => HC.out i (by simp [hy.len, hz.len] at hi; omega)) (by omega) (by simp [hy.len, hz.len]; omega) (by simp [hy.len, hz.len]; have := HNN.out; omega) rfl rfl (n := t) (by omega)
        have e : (((((a : Int), ((a + 2 * t + 1 : Nat) : Int)) :: (ys ++ zs)).take (1 + t)).drop 1) = ys := by
          rw [show 1 + t = t + 1 by omega, List.take_succ_cons, List.drop_succ_cons, List.drop_zero, List.take_append_of_le_length (by rw [hy.len]; omega), List.take_of_length_le (by rw [hy.len]; omega)]
        rw [e] at h
        exact h
      have V2 : SrcC w (.slice (if cap = 1 + t then some ⟨b, off, none⟩ else some ⟨b, off + (1 + t) * 2, none⟩) (n - (1 + t)) (cap - (1 + t))) zs := by
        have h := srcC_sub (w := w) (b := b) (off := off) (cap := cap) (i := 1 + t) (j := n) (c' := cap - (1 + t)) (xs := ((a : Int), ((a + 2 * t + 1 : Nat) : Int)) :: (ys ++ zs)) hm (fun i hi => HC.out i (by simp [hy.len, hz.len] at hi; omega)) (by omega) (by simp [hy.len, hz.len]; have := HNN.out; omega) (by simp [hy.len, hz.len]; have := HNN.out; omega) rfl rfl (n := n - (1 + t)) rfl
        have e : (((((a : Int), ((a + 2 * t + 1 : Nat) : Int)) :: (ys ++ zs)).take n).drop (1 + t)) = zs := by
          rw [List.take_of_length_le (by simp [hy.len, hz.len]; have := HNN.out; omega), show 1 + t = t + 1 by omega, List.drop_succ_cons, List.drop_append_of_le_length (by rw [hy.len]; omega), List.drop_eq_nil_of_le (by rw [hy.len]; omega), List.nil_append]
        rw [e] at h
        exact h
      have Q1 := Lib.hid (fun (q k : Nat) => onlyDraws (w := w) (q := q) (k := k) (fun W hW => IH.out (a + 1) t ys _ W hy (by omega) (by have := HNN.out; omega) (by rw [hW]; exact V1.drewN _)))
      have Q2 := Lib.hid (fun (q k : Nat) => onlyDraws (w := w) (q := q) (k := k) (fun W hW => IH.out (a + 2 * t + 2) v zs _ W hz (by omega) (by have := HNN.out; omega) (by rw [hW]; exact V2.drewN _)))
      rw [← hy1] at Q1
      rw [← hy2] at Q2
      clear hlt hrk hrk0 hcv0 hy1 hy2 htot hmm hs htu hcs V1 V2
      go_wp2
      go_quiet ((first | (go_at_call 47; exact noDraws CV.out) | (go_at_call 62; (with_reducible exact Q1.out _ _)) | (go_at_call 62; (with_reducible exact Q2.out _ _))))
      go_wp2
      all_goals
        go_ret
        exact ⟨by rw [← HTOT.out]; rfl, _, rfl⟩

theorem rankOf_any (f : Nat) : ∀ (a n : Nat) (xs : List (Int × Int)) (v : Value) (w : World), Plan a n xs → n ≤ f → n ≤ 15 → a + 2 * n ≤ 60 → SrcC w v xs →
    Calls Try.prog 62 #[v] w fun e w' => e = .returned (.int .i64 (rankP f xs : Nat)) ∧ ∃ m, w' = w.drewN m := by
  have nilc : ∀ (f : Nat) (v : Value) (w : World), SrcC w v [] → Calls Try.prog 62 #[v] w fun e w' => e = .returned (.int .i64 (rankP f [] : Nat)) ∧ ∃ m, w' = w.drewN m := by
    intro f v w hv
    rw [rankP_nil]
    rcases hv with ⟨rfl, _⟩ | ⟨b, off, cap, rfl, _⟩
    · exact rankOf_nil none 0 w
    · exact rankOf_nil _ cap w
  induction f with
  | zero =>
    intro a n xs v w hP hn _ _ hv
    obtain rfl := Nat.le_zero.1 hn
    have := hP.len
    obtain rfl := List.length_eq_zero_iff.1 this
    exact nilc 0 v w hv
  | succ f ih =>
    intro a n xs v w hP hn h15 ha hv
    cases hP with
    | nil a => exact nilc _ v w hv
    | cons a u q ys zs hy hz =>
      rcases hv with ⟨_, h⟩ | ⟨b, off, cap, rfl, hlc, hm, hc⟩
      · cases h
      · have hlen : ((((a : Int), ((a + 2 * u + 1 : Nat) : Int)) :: (ys ++ zs)) : List (Int × Int)).length = u + 1 + q := by rw [List.length_cons, List.length_append, hy.len, hz.len]; omega
        rw [hlen] at hlc hc ⊢
        exact rankOf_step f a u q b off cap ys zs w hy hz h15 hn (by omega) hlc hm hc (fun a' n' xs' v' W h1 h2 h3 h4 => ih a' n' xs' v' W h1 (by omega) (by omega) (by omega) h4)

end Go.Proofs.Ytenkokkhdcjcaab
