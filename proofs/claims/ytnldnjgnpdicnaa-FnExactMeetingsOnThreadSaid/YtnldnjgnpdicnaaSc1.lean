/- Meetings on a thread: their order, and what the program's comparison tells. -/
import Derived.Test.YtnldnjgnpdicnaaEB
import Derived.Test.YtnldnjgnpdicnaaSb9
import Derived.Test.YtnldnjgnpdicnaaUA
namespace Go.Proofs.Ytnldnjgnpdicnaa
open Go.RowKit
set_option linter.unusedVariables false

theorem field_xS (p q r s : Int) (w : World) : (Instr.field 95 (.agg #[.int .i64 p, .int .i64 q, .int .i64 r, .int .i64 s]) 0).run Try.prog w = .ok (.agg #[.int .i64 p, .int .i64 q]) w := by
  unfold Instr.field
  go_simp
  try rfl

theorem meetL_partsS {a b c d ax bx ay cy : Int} {P Q : Nat} (hL : meetL a b c d = [ax, bx, ay, cy]) (hP : lowA (mxN a b c d) (mdN a b c d) = P) (hQ : lowB (mxN a b c d) (mdN a b c d) = Q) : ax = (P : Int) ∧ bx = (Q : Int) := by
  unfold meetL at hL
  rw [hP, hQ] at hL
  simp only [List.cons.injEq] at hL
  exact ⟨hL.1.symm, hL.2.1.symm⟩

/-- Thread i meets thread k. -/
def mtS (xs : List (Int × Int)) (k i : Nat) : Bool := meetP (xs.getD k (0, 0)) (xs.getD i (0, 0))

theorem low_boundsS (a b c d : Int) (h1 : isT a b) (h2 : isT c d) (hac : a < c) (hdb : d < b) : lowA (mxN a b c d) (mdN a b c d) ≤ 1000000 ∧ lowB (mxN a b c d) (mdN a b c d) ≤ 10000 ∧ 1 ≤ lowB (mxN a b c d) (mdN a b c d) := by
  obtain ⟨X, Y, D, hX, hY, hD, _, _, _, _, _, hX2, _, hD1, hD2, _⟩ := meet_letters a b c d h1 h2 hac hdb
  rw [hX, hD]
  obtain ⟨g, x, y, _, _, hx, hy, _, _, hxn, hy1, hyd, _, _⟩ := low_letters X D hD1
  rw [hx, hy]
  omega

theorem ex_boundsS {xs : List (Int × Int)} (hg : goodT xs) {k i : Nat} (hk : k < xs.length) (hi : i < xs.length) (h : mtS xs k i = true) : exA xs k i ≤ 1000000 ∧ exB xs k i ≤ 10000 ∧ 1 ≤ exB xs k i := by
  have t1 := hg.at k hk
  have t2 := hg.at i hi
  unfold exA exB
  unfold mtS meetP at h
  have h' := h
  unfold meetB at h'
  rw [decide_eq_true_eq] at h'
  rcases h' with e | e
  · rw [mxN_comm _ _ _ _ h, mdN_comm _ _ _ _ h]
    exact low_boundsS _ _ _ _ t2 t1 e.1 e.2
  · exact low_boundsS _ _ _ _ t1 t2 e.1 e.2

/-- The order of the meetings on thread k. -/
def ltS (xs : List (Int × Int)) (k : Nat) (x y : Int) : Bool :=
  decide (exA xs k x.toNat * exB xs k y.toNat < exA xs k y.toNat * exB xs k x.toNat ∨ (exA xs k x.toNat * exB xs k y.toNat = exA xs k y.toNat * exB xs k x.toNat ∧ x < y))
def cfS (xs : List (Int × Int)) (k : Nat) (x y : Int) : Int := cmpI ((exA xs k x.toNat * exB xs k y.toNat : Nat) : Int) ((exA xs k y.toNat * exB xs k x.toNat : Nat) : Int)

/-- Fractions in order: with one that is less strictly, the ends are. -/
theorem frac_trans {a b c d e f : Nat} (hb : 1 ≤ b) (hd : 1 ≤ d) (hf : 1 ≤ f) (h1 : a * d ≤ c * b) (h2 : c * f ≤ e * d) : a * f ≤ e * b ∧ (a * d < c * b ∨ c * f < e * d → a * f < e * b) := by
  have e1 : d * (a * f) = a * d * f := by rw [Nat.mul_left_comm, ← Nat.mul_assoc]
  have e2 : d * (e * b) = e * d * b := by rw [Nat.mul_left_comm, ← Nat.mul_assoc]
  have e3 : c * b * f = c * f * b := by rw [Nat.mul_assoc, Nat.mul_comm b f, ← Nat.mul_assoc]
  constructor
  · refine Nat.le_of_mul_le_mul_left (c := d) ?_ hd
    rw [e1, e2]
    exact Nat.le_trans (Nat.mul_le_mul_right f h1) (e3 ▸ Nat.mul_le_mul_right b h2)
  · intro h
    refine Nat.lt_of_mul_lt_mul_left (a := d) ?_
    rw [e1, e2]
    rcases h with h | h
    · exact Nat.lt_of_lt_of_le (Nat.mul_lt_mul_of_pos_right h hf) (e3 ▸ Nat.mul_le_mul_right b h2)
    · exact Nat.lt_of_le_of_lt (Nat.mul_le_mul_right f h1) (e3 ▸ Nat.mul_lt_mul_of_pos_right h hb)

theorem ordS (xs : List (Int × Int)) (k : Nat) (M : List Int) (hM : ∀ z ∈ M, 1 ≤ exB xs k z.toNat) : OrdS M (ltS xs k) (cfS xs k) := by
  refine ⟨fun x hx y hy z hz h1 h2 => ?_, fun x hx y hy hne => ?_, fun x hx y hy hlt => ?_⟩
  · unfold ltS at *
    rw [decide_eq_true_eq] at *
    obtain ⟨t1, t2⟩ := frac_trans (a := exA xs k x.toNat) (b := exB xs k x.toNat) (c := exA xs k y.toNat) (d := exB xs k y.toNat) (e := exA xs k z.toNat) (f := exB xs k z.toNat) (hM x hx) (hM y hy) (hM z hz) (by omega) (by omega)
    omega
  · unfold ltS
    generalize exA xs k x.toNat * exB xs k y.toNat = p
    generalize exA xs k y.toNat * exB xs k x.toNat = q
    rw [← decide_not, decide_eq_decide]
    omega
  · unfold ltS cfS cmpI
    generalize exA xs k x.toNat * exB xs k y.toNat = p
    generalize exA xs k y.toNat * exB xs k x.toNat = q
    rw [decide_eq_decide]
    split
    · omega
    · split <;> omega

set_option maxHeartbeats 4000000 in
theorem sortFn_any (gl gk : Nat) (u : Value) (xs : List (Int × Int)) (B T k x y : Nat) (w : World) (hL : PairsIn 83 w B T u xs) (hg : goodT xs) (hk : k < xs.length) (hx : x < xs.length) (hy : y < xs.length) (mx : mtS xs k x = true) (my : mtS xs k y = true)
    (hl : w.cell? ⟨gl, 0, none⟩ = some u) (hkc : w.cell? ⟨gk, 0, none⟩ = some (.int .i64 (k : Int))) :
    Calls Try.prog 68 #[.int .i64 (x : Int), .int .i64 (y : Int), .pointer (some ⟨gl, 0, none⟩), .pointer (some ⟨gk, 0, none⟩)] w fun e w' => e = .returned (.int .i64 (cfS xs k (x : Int) (y : Int))) ∧ Below w.heap.size w w' := by
  have hn : xs.length ≤ 30 := hg.1.2
  obtain ⟨x1, x2, x3⟩ := ex_boundsS hg hk hx mx
  obtain ⟨y1, y2, y3⟩ := ex_boundsS hg hk hy my
  obtain ⟨a1, c1, g1, rfl, ha1, hm, hx1, hy1⟩ := hL.pairs.view
  obtain rfl := ha1 (by omega)
  obtain ⟨a, b, hab⟩ : ∃ a b, xs.getD k (0, 0) = (a, b) := ⟨_, _, rfl⟩
  obtain ⟨c, d, hcd⟩ : ∃ a b, xs.getD x (0, 0) = (a, b) := ⟨_, _, rfl⟩
  obtain ⟨e, f, hef⟩ : ∃ a b, xs.getD y (0, 0) = (a, b) := ⟨_, _, rfl⟩
  have e0 := hx1 k hk; have e1 := hy1 k hk
  have e2 := hx1 x hx; have e3 := hy1 x hx
  have e4 := hx1 y hy; have e5 := hy1 y hy
  rw [hab] at e0 e1
  rw [hcd] at e2 e3
  rw [hef] at e4 e5
  simp only at e0 e1 e2 e3 e4 e5
  have t1 := hg.at k hk
  have t2 := hg.at x hx
  have t3 := hg.at y hy
  rw [hab] at t1
  rw [hcd] at t2
  rw [hef] at t3
  unfold mtS meetP at mx my
  rw [hab, hcd] at mx
  rw [hab, hef] at my
  have HC : Hid (cfS xs k (x : Int) (y : Int) = cmpI ((exA xs k x * exB xs k y : Nat) : Int) ((exA xs k y * exB xs k x : Nat) : Int)) := Lib.hid (by unfold cfS; simp only [Int.toNat_natCast])
  obtain ⟨P, hP⟩ : ∃ P, exA xs k x = P := ⟨_, rfl⟩
  obtain ⟨Q, hQ⟩ : ∃ P, exB xs k x = P := ⟨_, rfl⟩
  obtain ⟨R, hR⟩ : ∃ P, exA xs k y = P := ⟨_, rfl⟩
  obtain ⟨U, hU⟩ : ∃ P, exB xs k y = P := ⟨_, rfl⟩
  rw [hP, hQ, hR, hU] at HC
  rw [hP] at x1; rw [hQ] at x2; rw [hR] at y1; rw [hU] at y2
  have HPE := Lib.hid (show lowA (mxN a b c d) (mdN a b c d) = P by rw [← hP]; unfold exA; rw [hab, hcd])
  have HQE := Lib.hid (show lowB (mxN a b c d) (mdN a b c d) = Q by rw [← hQ]; unfold exB; rw [hab, hcd])
  have HRE := Lib.hid (show lowA (mxN a b e f) (mdN a b e f) = R by rw [← hR]; unfold exA; rw [hab, hef])
  have HUE := Lib.hid (show lowB (mxN a b e f) (mdN a b e f) = U by rw [← hU]; unfold exB; rw [hab, hef])
  have HM1 := Lib.hid (fun W => meetingOf_e a b c d W t1 t2 mx)
  have HM2 := Lib.hid (fun W => meetingOf_e a b e f W t1 t3 my)
  have k0 : (0 : Int) ≤ (k : Int) := by omega
  have k1 : (k : Int) < (xs.length : Int) := by omega
  have i0 : (0 : Int) ≤ (x : Int) := by omega
  have i1 : (x : Int) < (xs.length : Int) := by omega
  have j0 : (0 : Int) ≤ (y : Int) := by omega
  have j1 : (y : Int) < (xs.length : Int) := by omega
  have K4 := Lib.hid (show ∀ w', Below w.heap.size w w' → Below w.heap.size w w' ∧ w'.cell? ⟨gl, 0, none⟩ = some (.slice (some ⟨g1, 0, none⟩) xs.length c1) ∧ w'.cell? ⟨gk, 0, none⟩ = some (.int .i64 (k : Int)) ∧ w'.cell? ⟨g1, k * 2, none⟩ = some (.int .i64 a) ∧ w'.cell? ⟨g1, k * 2 + 1, none⟩ = some (.int .i64 b) ∧ w'.cell? ⟨g1, x * 2, none⟩ = some (.int .i64 c) ∧ w'.cell? ⟨g1, x * 2 + 1, none⟩ = some (.int .i64 d) ∧ w'.cell? ⟨g1, y * 2, none⟩ = some (.int .i64 e) ∧ w'.cell? ⟨g1, y * 2 + 1, none⟩ = some (.int .i64 f) from fun w' hb => ⟨hb, cellB hb hl, cellB hb hkc, cellB hb e0, cellB hb e1, cellB hb e2, cellB hb e3, cellB hb e4, cellB hb e5⟩)
  clear hL hg hx1 hy1 hab hcd hef mx my hP hQ hR hU x3 y3 ha1 t1 t2 t3
  go_enter Try.func68, Try.ntmps68
  go_wp2

  refine wp_region_held_drew (S := fun w' => Below w.heap.size w w' ∧ w'.cell? ⟨gl, 0, none⟩ = some (.slice (some ⟨g1, 0, none⟩) xs.length c1) ∧ w'.cell? ⟨gk, 0, none⟩ = some (.int .i64 (k : Int)) ∧ w'.cell? ⟨g1, k * 2, none⟩ = some (.int .i64 a) ∧ w'.cell? ⟨g1, k * 2 + 1, none⟩ = some (.int .i64 b) ∧ w'.cell? ⟨g1, x * 2, none⟩ = some (.int .i64 c) ∧ w'.cell? ⟨g1, x * 2 + 1, none⟩ = some (.int .i64 d) ∧ w'.cell? ⟨g1, y * 2, none⟩ = some (.int .i64 e) ∧ w'.cell? ⟨g1, y * 2 + 1, none⟩ = some (.int .i64 f)) (by kernel_rfl) (by (try dsimp only); exact K4.out _ (by go_grown)) (fun hHeld => ?_)
  refine wpAnyH_take (i := 0) (v := ?v30) rfl (by kernel_rfl) (by kernel_rfl) (by kernel_rfl) (fun _ _ _ h => h) (Or.inl ⟨by rfl, ?hy30⟩) (by assumption) ?rest30
  case hy30 => (intro w hSw; (try dsimp only at hSw); obtain ⟨_, s1, s2, s3, s4, s5, s6, s7, s8⟩ := hSw; go_simp; (try with_reducible rfl))
  simp only [Act.put, List.getElem_toArray, List.getElem_cons_zero, List.setIfInBounds_toArray, List.set_cons_zero, List.set_cons_succ]
  refine wpAnyH_take (i := 1) (v := ?v31) rfl (by kernel_rfl) (by kernel_rfl) (by kernel_rfl) (fun _ _ _ h => h) (Or.inl ⟨by rfl, ?hy31⟩) (by assumption) ?rest31
  case hy31 => (intro w hSw; (try dsimp only at hSw); obtain ⟨_, s1, s2, s3, s4, s5, s6, s7, s8⟩ := hSw; go_simp; (try with_reducible rfl))
  simp only [Act.put, List.getElem_toArray, List.getElem_cons_zero, List.getElem_cons_succ, List.setIfInBounds_toArray, List.set_cons_zero, List.set_cons_succ]
  refine wpAnyH_take (i := 2) (v := ?v32) rfl (by kernel_rfl) (by kernel_rfl) (by kernel_rfl) (fun _ _ _ h => h) (Or.inl ⟨by rfl, ?hy32⟩) (by assumption) ?rest32
  case hy32 => (intro w hSw; (try dsimp only at hSw); go_simp; (try with_reducible rfl))
  simp only [Act.put, List.getElem_toArray, List.getElem_cons_zero, List.getElem_cons_succ, List.setIfInBounds_toArray, List.set_cons_zero, List.set_cons_succ]
  refine wpAnyH_take (i := 3) (v := ?v33) rfl (by kernel_rfl) (by kernel_rfl) (by kernel_rfl) (fun _ _ _ h => h) (Or.inl ⟨by rfl, ?hy33⟩) (by assumption) ?rest33
  case hy33 => (intro w hSw; (try dsimp only at hSw); obtain ⟨_, s1, s2, s3, s4, s5, s6, s7, s8⟩ := hSw; go_simp; (try with_reducible rfl))
  simp only [Act.put, List.getElem_toArray, List.getElem_cons_zero, List.getElem_cons_succ, List.setIfInBounds_toArray, List.set_cons_zero, List.set_cons_succ]
  refine wpAnyH_take (i := 4) (v := ?v34) rfl (by kernel_rfl) (by kernel_rfl) (by kernel_rfl) (fun _ _ _ h => h) (Or.inl ⟨by rfl, ?hy34⟩) (by assumption) ?rest34
  case hy34 => (intro w hSw; (try dsimp only at hSw); obtain ⟨_, s1, s2, s3, s4, s5, s6, s7, s8⟩ := hSw; go_simp; (try with_reducible rfl))
  simp only [Act.put, List.getElem_toArray, List.getElem_cons_zero, List.getElem_cons_succ, List.setIfInBounds_toArray, List.set_cons_zero, List.set_cons_succ]
  refine wpAnyH_take (i := 5) (v := ?v35) rfl (by kernel_rfl) (by kernel_rfl) (by kernel_rfl) (fun _ _ _ h => h) (Or.inl ⟨by rfl, ?hy35⟩) (by assumption) ?rest35
  case hy35 => (intro w hSw; (try dsimp only at hSw); go_simp; (try with_reducible rfl))
  simp only [Act.put, List.getElem_toArray, List.getElem_cons_zero, List.getElem_cons_succ, List.setIfInBounds_toArray, List.set_cons_zero, List.set_cons_succ]
  refine wpAnyH_take (i := 6) (v := ?v36) rfl (by kernel_rfl) (by kernel_rfl) (by kernel_rfl) (fun _ _ _ h => h) (Or.inl ⟨by rfl, ?hy36⟩) (by assumption) ?rest36
  case hy36 => (intro w hSw; (try dsimp only at hSw); go_simp; (try with_reducible rfl))
  simp only [Act.put, List.getElem_toArray, List.getElem_cons_zero, List.getElem_cons_succ, List.setIfInBounds_toArray, List.set_cons_zero, List.set_cons_succ]
  refine wpAnyH_take (i := 7) (v := ?v37) rfl (by kernel_rfl) (by kernel_rfl) (by kernel_rfl) (fun _ _ _ h => h) (Or.inl ⟨by rfl, ?hy37⟩) (by assumption) ?rest37
  case hy37 => (intro w hSw; (try dsimp only at hSw); obtain ⟨_, s1, s2, s3, s4, s5, s6, s7, s8⟩ := hSw; go_simp; (try with_reducible rfl))
  simp only [Act.put, List.getElem_toArray, List.getElem_cons_zero, List.getElem_cons_succ, List.setIfInBounds_toArray, List.set_cons_zero, List.set_cons_succ]
  refine wpAnyH_take (i := 10) (v := ?v38) rfl (by kernel_rfl) (by kernel_rfl) (by kernel_rfl) (fun _ _ _ h => h) (Or.inl ⟨by rfl, ?hy38⟩) (by assumption) ?rest38
  case hy38 => (intro w hSw; (try dsimp only at hSw); obtain ⟨_, s1, s2, s3, s4, s5, s6, s7, s8⟩ := hSw; go_simp; (try with_reducible rfl))
  simp only [Act.put, List.getElem_toArray, List.getElem_cons_zero, List.getElem_cons_succ, List.setIfInBounds_toArray, List.set_cons_zero, List.set_cons_succ]
  refine wpAnyH_take (i := 11) (v := ?v39) rfl (by kernel_rfl) (by kernel_rfl) (by kernel_rfl) (fun _ _ _ h => h) (Or.inl ⟨by rfl, ?hy39⟩) (by assumption) ?rest39
  case hy39 => (intro w hSw; (try dsimp only at hSw); obtain ⟨_, s1, s2, s3, s4, s5, s6, s7, s8⟩ := hSw; go_simp; (try with_reducible rfl))
  simp only [Act.put, List.getElem_toArray, List.getElem_cons_zero, List.getElem_cons_succ, List.setIfInBounds_toArray, List.set_cons_zero, List.set_cons_succ]
  refine wpAnyH_take (i := 12) (v := ?v40) rfl (by kernel_rfl) (by kernel_rfl) (by kernel_rfl) (fun _ _ _ h => h) (Or.inl ⟨by rfl, ?hy40⟩) (by assumption) ?rest40
  case hy40 => (intro w hSw; (try dsimp only at hSw); go_simp; (try with_reducible rfl))
  simp only [Act.put, List.getElem_toArray, List.getElem_cons_zero, List.getElem_cons_succ, List.setIfInBounds_toArray, List.set_cons_zero, List.set_cons_succ]
  refine wpAnyH_take (i := 13) (v := ?v41) rfl (by kernel_rfl) (by kernel_rfl) (by kernel_rfl) (fun _ _ _ h => h) (Or.inl ⟨by rfl, ?hy41⟩) (by assumption) ?rest41
  case hy41 => (intro w hSw; (try dsimp only at hSw); obtain ⟨_, s1, s2, s3, s4, s5, s6, s7, s8⟩ := hSw; go_simp; (try with_reducible rfl))
  simp only [Act.put, List.getElem_toArray, List.getElem_cons_zero, List.getElem_cons_succ, List.setIfInBounds_toArray, List.set_cons_zero, List.set_cons_succ]
  refine wpAnyH_take (i := 14) (v := ?v42) rfl (by kernel_rfl) (by kernel_rfl) (by kernel_rfl) (fun _ _ _ h => h) (Or.inl ⟨by rfl, ?hy42⟩) (by assumption) ?rest42
  case hy42 => (intro w hSw; (try dsimp only at hSw); obtain ⟨_, s1, s2, s3, s4, s5, s6, s7, s8⟩ := hSw; go_simp; (try with_reducible rfl))
  simp only [Act.put, List.getElem_toArray, List.getElem_cons_zero, List.getElem_cons_succ, List.setIfInBounds_toArray, List.set_cons_zero, List.set_cons_succ]
  refine wpAnyH_take (i := 15) (v := ?v43) rfl (by kernel_rfl) (by kernel_rfl) (by kernel_rfl) (fun _ _ _ h => h) (Or.inl ⟨by rfl, ?hy43⟩) (by assumption) ?rest43
  case hy43 => (intro w hSw; (try dsimp only at hSw); go_simp; (try with_reducible rfl))
  simp only [Act.put, List.getElem_toArray, List.getElem_cons_zero, List.getElem_cons_succ, List.setIfInBounds_toArray, List.set_cons_zero, List.set_cons_succ]
  refine wpAnyH_take (i := 16) (v := ?v44) rfl (by kernel_rfl) (by kernel_rfl) (by kernel_rfl) (fun _ _ _ h => h) (Or.inl ⟨by rfl, ?hy44⟩) (by assumption) ?rest44
  case hy44 => (intro w hSw; (try dsimp only at hSw); go_simp; (try with_reducible rfl))
  simp only [Act.put, List.getElem_toArray, List.getElem_cons_zero, List.getElem_cons_succ, List.setIfInBounds_toArray, List.set_cons_zero, List.set_cons_succ]
  refine wpAnyH_take (i := 17) (v := ?v45) rfl (by kernel_rfl) (by kernel_rfl) (by kernel_rfl) (fun _ _ _ h => h) (Or.inl ⟨by rfl, ?hy45⟩) (by assumption) ?rest45
  case hy45 => (intro w hSw; (try dsimp only at hSw); obtain ⟨_, s1, s2, s3, s4, s5, s6, s7, s8⟩ := hSw; go_simp; (try with_reducible rfl))
  simp only [Act.put, List.getElem_toArray, List.getElem_cons_zero, List.getElem_cons_succ, List.setIfInBounds_toArray, List.set_cons_zero, List.set_cons_succ]
  refine wpAnyH_ready (rs := [8]) (by kernel_rfl) (by simp) ?_
  refine AllReadyH.cons rfl (fun K hK => ?_) AllReadyH.nil
  simp only [List.getElem_toArray, List.getElem_cons_zero, List.getElem_cons_succ]
  go_simp
  go_at_call 70; (with_reducible refine (HM1.out _).mono ?_); rintro ee w2 ⟨⟨ax, bx, ay, cy, hL, rfl⟩, hb2⟩; obtain ⟨rfl, rfl⟩ := meetL_partsS hL HPE.out HQE.out; clear hL
  dsimp only
  refine hK.out _ _ (by (try dsimp only); exact K4.out _ (hHeld.1.trans (hb2.mono hHeld.1.size))) (fun hHeld => ?_)
  clear hK K
  refine wpAnyH_take (i := 9) (v := ?v46) rfl (by kernel_rfl) (by kernel_rfl) (by kernel_rfl) (fun _ _ _ h => h) (Or.inl ⟨by rfl, ?hy46⟩) (by assumption) ?rest46
  case hy46 => (intro w hSw; (try dsimp only at hSw); go_simp; rw [field_xS]; rfl)
  simp only [Act.put, List.getElem_toArray, List.getElem_cons_zero, List.getElem_cons_succ, List.setIfInBounds_toArray, List.set_cons_zero, List.set_cons_succ]
  refine wpAnyH_ready (rs := [18]) (by kernel_rfl) (by simp) ?_
  refine AllReadyH.cons rfl (fun K hK => ?_) AllReadyH.nil
  simp only [List.getElem_toArray, List.getElem_cons_zero, List.getElem_cons_succ]
  go_simp
  go_at_call 70; (with_reducible refine (HM2.out _).mono ?_); rintro ee w3 ⟨⟨ax2, bx2, ay2, cy2, hL, rfl⟩, hb3⟩; obtain ⟨rfl, rfl⟩ := meetL_partsS hL HRE.out HUE.out; clear hL
  dsimp only
  refine hK.out _ _ (by (try dsimp only); exact K4.out _ (hHeld.1.trans (hb3.mono hHeld.1.size))) (fun hHeld => ?_)
  clear hK K
  refine wpAnyH_take (i := 19) (v := ?v47) rfl (by kernel_rfl) (by kernel_rfl) (by kernel_rfl) (fun _ _ _ h => h) (Or.inl ⟨by rfl, ?hy47⟩) (by assumption) ?rest47
  case hy47 => (intro w hSw; (try dsimp only at hSw); go_simp; rw [field_xS]; rfl)
  simp only [Act.put, List.getElem_toArray, List.getElem_cons_zero, List.getElem_cons_succ, List.setIfInBounds_toArray, List.set_cons_zero, List.set_cons_succ]
  refine wpAnyH_ready (rs := [20]) (by kernel_rfl) (by simp) ?_
  refine AllReadyH.cons rfl (fun K hK => ?_) AllReadyH.nil
  simp only [List.getElem_toArray, List.getElem_cons_zero, List.getElem_cons_succ]
  go_simp
  go_at_call 69; (refine (compareFractions_any P Q R U _ x1 x2 y1 y2).mono ?_); rintro ee w4 ⟨rfl, hb4⟩
  dsimp only
  refine hK.out _ _ (by (try dsimp only); exact K4.out _ (hHeld.1.trans (hb4.mono hHeld.1.size))) (fun hHeld => ?_)
  clear hK K
  refine wpAnyH_take (i := 21) (v := ?v48) rfl (by kernel_rfl) (by kernel_rfl) (by kernel_rfl) (fun _ _ _ h => h) (Or.inl ⟨by rfl, ?hy48⟩) (by assumption) ?rest48
  case hy48 => (intro w hSw; (try dsimp only at hSw); go_simp; (try with_reducible rfl))
  simp only [Act.put, List.getElem_toArray, List.getElem_cons_zero, List.getElem_cons_succ, List.setIfInBounds_toArray, List.set_cons_zero, List.set_cons_succ]
  refine wpAnyH_done (by kernel_rfl) ?_ _
  go_wp2
  go_ret
  exact ⟨by rw [HC.out, Int.natCast_mul, Int.natCast_mul]; rfl, hHeld.1⟩
end Go.Proofs.Ytnldnjgnpdicnaa
