/- The closures of highestAt. -/
import Derived.Test.YtngonpiiehmlaabFI
import Derived.Test.YtngonpiiehmlaabES
namespace Go.Proofs.Ytngonpiiehmlaab
open Go.RowKit
set_option linter.unusedVariables false

/-- What is read of element k: its cells in the world w. -/
theorem elem_cells {e : TypeId} {w : World} {B T g n cap : Nat} {xs : List (Int × Int)} (h : PairsIn e w B T (.slice (some ⟨g, 0, none⟩) n cap) xs) (k : Nat) (hk : k < xs.length) (a b : Int) (hab : xs.getD k (0, 0) = (a, b)) :
    w.cell? ⟨g, k * 2, none⟩ = some (.int .i64 a) ∧ w.cell? ⟨g, k * 2 + 1, none⟩ = some (.int .i64 b) := by
  have c0 := h.1.cell0 k hk
  have c1 := h.1.cell1 k hk
  rw [hab] at c0 c1
  exact ⟨c0, c1⟩

theorem list_form {e : TypeId} {w : World} {B T : Nat} {u : Value} {xs : List (Int × Int)} (h : PairsIn e w B T u xs) (hn : 0 < xs.length) : ∃ g cap, u = .slice (some ⟨g, 0, none⟩) xs.length cap := by
  obtain ⟨a1, c1, g1, rfl, ha1, _⟩ := h.pairs.view
  exact ⟨g1, c1, by rw [ha1 hn]⟩

set_option maxHeartbeats 1000000 in
theorem reachFn_any (xs : List (Int × Int)) (x : Int) (k gl gx : Nat) (u : Value) (B T : Nat) (r : Bool) (w : World) (hL : PairsIn 55 w B T u xs) (hg : goodT xs) (hl : w.cell? ⟨gl, 0, none⟩ = some u) (hx : w.cell? ⟨gx, 0, none⟩ = some (.int .i64 x)) (x0 : 0 ≤ x) (hk : k < xs.length) (hr : reachP xs x k = r) :
    Calls Try.prog 69 #[.int .i64 k, .pointer (some ⟨gx, 0, none⟩), .pointer (some ⟨gl, 0, none⟩)] w fun e w' => e = .returned (.bool r) ∧ Below w.heap.size w w' := by
  obtain ⟨g1, c1, rfl⟩ := list_form hL (by omega)
  obtain ⟨a, b, hab⟩ : ∃ a b, xs.getD k (0, 0) = (a, b) := ⟨_, _, rfl⟩
  obtain ⟨e0, e1⟩ := elem_cells hL k hk a b hab
  have hr' : decide (x ≤ a) = r := by unfold reachP at hr; rw [hab] at hr; exact hr
  have k1 : 0 ≤ (k : Int) := by omega
  have k2 : (k : Int) < (xs.length : Int) := by omega
  clear hL hg hab hr
  go_enter Try.func69, Try.ntmps69
  go_wp2
  go_quiet (fail)
  go_wp2
  go_ret
  exact ⟨by first | rfl | simp, by first | exact bdn (Below.refl _ _) _ | go_grown⟩

set_option maxHeartbeats 1000000 in
theorem where_reach (p : Nat) (xs : List (Int × Int)) (x : Int) (gl gx : Nat) (u : Value) (B T : Nat) (c : Nat → Bool) (w : World) (h : p ≤ 30) (hp : p = xs.length) (hL : PairsIn 55 w B T u xs) (hT : T ≤ w.heap.size) (hg : goodT xs) (hl : w.cell? ⟨gl, 0, none⟩ = some u) (hx : w.cell? ⟨gx, 0, none⟩ = some (.int .i64 x)) (x0 : 0 ≤ x) (hcd : ∀ k, k < p → reachP xs x k = c k) :
    Calls Try.prog 52 #[.int .i64 p, .func (.func 69) #[] #[.pointer (some ⟨gx, 0, none⟩), .pointer (some ⟨gl, 0, none⟩)]] w (GivesT w (selT c p)) := by
  have HCD := Lib.hid hcd
  have HL := Lib.hid hL
  have HG := Lib.hid hg
  have SX := Lib.hid hx
  have SL := Lib.hid hl
  have HP := Lib.hid hp
  clear hcd hL hg hl hx hp
  go_enter Try.func52, Try.ntmps52
  go_wp2
  go_loopw [5, 8] (fun u i wr => ∃ k : Nat, k ≤ p ∧ i = .int .i64 k ∧ Ints wr w.heap.size 3 u (selT c k) ∧ Below w.heap.size w wr) (fun _ i _ => p - (intOf i).toNat)
  case atStart => exact ⟨0, by omega, rfl, World.ownsRow_nil _ _ _ _, Below.refl _ _⟩
  case round =>
    obtain ⟨k, hk, rfl, hI, hB⟩ := hrel
    have HI := Lib.hid hI
    have hz := hB.size
    clear hI
    by_cases hlt : k < p
    · have hlen := selT_length c k
      have HL2 := Lib.hid (HL.out.keep (belowSame hB hT))
      have SX2 := Lib.hid ((hB.cell (p := ⟨gx, 0, none⟩) (World.block_lt_of_cell? w _ SX.out)).trans SX.out)
      have SL2 := Lib.hid ((hB.cell (p := ⟨gl, 0, none⟩) (World.block_lt_of_cell? w _ SL.out)).trans SL.out)
      cases hcb : c k with
      | true =>
        have HS := Lib.hid (selT_yes c k hcb)
        have HCB := Lib.hid hcb
        clear hcb
        go_wp2_with (first
          | (go_at_call 69; (refine (reachFn_any xs x k gl gx u B T true _ HL2.out HG.out SL2.out SX2.out x0 (by have := HP.out; omega) ((HCD.out k hlt).trans HCB.out)).mono ?_); rintro e w1 ⟨rfl, hb1⟩; have HI1 := Lib.hid (HI.out.later hb1); have hB1 := hB.trans (hb1.mono hz); have hz1 := hB1.size)
          | (at_builtin; refine wpList_append_int rfl _ _ 30 rfl (w.heap.size) 3 Try.underlying30 info_int _ _ rfl HI1.out (k : Int) rfl (by omega) (by omega) ?_; intro v' w' hI' hg'; have hB' := HI1.out.below hB1 hz1 hg'; rw [HS.out] at hI'; have HI' := Lib.hid hI'; clear hI'))
        go_roundw
        case rel => exact ⟨k + 1, by omega, by go_num, HI'.out, hB'⟩
        case measure => simp [intOf]; omega
      | false =>
        have HS := Lib.hid (selT_no c k hcb)
        have HCB := Lib.hid hcb
        clear hcb
        go_wp2_with (first
          | (go_at_call 69; (refine (reachFn_any xs x k gl gx u B T false _ HL2.out HG.out SL2.out SX2.out x0 (by have := HP.out; omega) ((HCD.out k hlt).trans HCB.out)).mono ?_); rintro e w1 ⟨rfl, hb1⟩; have HI1 := Lib.hid (HI.out.later hb1); have hB1 := hB.trans (hb1.mono hz)))
        go_roundw
        case rel => exact ⟨k + 1, by omega, by go_num, by rw [← HS.out]; exact HI1.out, hB1⟩
        case measure => simp [intOf]; omega
    · obtain rfl : k = p := by omega
      go_wp2
      go_ret
      exact ⟨_, rfl, HI.out, hB⟩

/-- How the guesses of two heights stand to each other. -/
def oH (xs : List (Int × Int)) (x : Int) (i j : Nat) : Ordering := (Ieee.double.order (gu (hN xs x i) (hD xs i)) (gu (hN xs x j) (hD xs j))).getD .eq

theorem oH_spec {xs : List (Int × Int)} (hg : goodT xs) (x : Int) (x0 : 0 ≤ x) (i j : Nat) (hi : i < xs.length) (hj : j < xs.length) (ri : reachP xs x i = true) (rj : reachP xs x j = true) :
    Ieee.double.order (gu (hN xs x i) (hD xs i)) (gu (hN xs x j) (hD xs j)) = some (oH xs x i j) ∧ (¬ leH xs x j i → oH xs x i j = .lt) ∧ (¬ leH xs x i j → oH xs x i j = .gt) := by
  obtain ⟨o, ho, o1, o2⟩ := gu_order (hN xs x i) (hD xs i) (hN xs x j) (hD xs j) (hN_le hg x x0 i hi ri) ⟨hD_pos hg i hi, hD_le hg i hi⟩ (hN_le hg x x0 j hj rj) ⟨hD_pos hg j hj, hD_le hg j hj⟩
  have e : oH xs x i j = o := by unfold oH; rw [ho]; rfl
  rw [e]
  exact ⟨ho, fun h => o1 (by unfold leH at h; omega), fun h => o2 (by unfold leH at h; omega)⟩

set_option maxHeartbeats 2000000 in
theorem cmpFn_any (xs : List (Int × Int)) (x : Int) (i j gl gx : Nat) (u : Value) (B T : Nat) (w : World) (hL : PairsIn 55 w B T u xs) (hg : goodT xs) (hl : w.cell? ⟨gl, 0, none⟩ = some u) (hx : w.cell? ⟨gx, 0, none⟩ = some (.int .i64 x)) (x0 : 0 ≤ x) (hi : i < xs.length) (hj : j < xs.length) (ri : reachP xs x i = true) (rj : reachP xs x j = true) :
    Calls Try.prog 71 #[.int .i64 i, .int .i64 j, .pointer (some ⟨gl, 0, none⟩), .pointer (some ⟨gx, 0, none⟩)] w fun e w' => e = .returned (.int .i64 (ordI (oH xs x i j))) ∧ Below w.heap.size w w' := by
  obtain ⟨g1, c1, rfl⟩ := list_form hL (by omega)
  obtain ⟨a, b, hab⟩ : ∃ a b, xs.getD i (0, 0) = (a, b) := ⟨_, _, rfl⟩
  obtain ⟨c, d, hcd⟩ : ∃ a b, xs.getD j (0, 0) = (a, b) := ⟨_, _, rfl⟩
  obtain ⟨e0, e1⟩ := elem_cells hL i hi a b hab
  obtain ⟨e2, e3⟩ := elem_cells hL j hj c d hcd
  have ti := hg.at i hi
  have tj := hg.at j hj
  have xi : 0 ≤ x ∧ x ≤ a := ⟨x0, by have := of_decide_eq_true ri; rw [hab] at this; exact this⟩
  have xj : 0 ≤ x ∧ x ≤ c := ⟨x0, by have := of_decide_eq_true rj; rw [hcd] at this; exact this⟩
  have ni := hN_le hg x x0 i hi ri
  have nj := hN_le hg x x0 j hj rj
  have ho := (oH_spec hg x x0 i j hi hj ri rj).1
  have si := gu_self (hN xs x i) (hD xs i) ni ⟨hD_pos hg i hi, hD_le hg i hi⟩
  have sj := gu_self (hN xs x j) (hD xs j) nj ⟨hD_pos hg j hj, hD_le hg j hj⟩
  obtain ⟨o, hoo⟩ : ∃ o, oH xs x i j = o := ⟨_, rfl⟩
  rw [hoo] at ho ⊢
  have gi := fun W => guessHeight_any a b x W (by rw [hab] at ti; exact ti) xi
  have gj := fun W => guessHeight_any c d x W (by rw [hcd] at tj; exact tj) xj
  have ei : gu (hgt a b x) a.toNat = gu (hN xs x i) (hD xs i) := by unfold hN hD; rw [hab]
  have ej : gu (hgt c d x) c.toNat = gu (hN xs x j) (hD xs j) := by unfold hN hD; rw [hcd]
  rw [ei] at gi
  rw [ej] at gj
  obtain ⟨GI, hGI⟩ : ∃ g, gu (hN xs x i) (hD xs i) = g := ⟨_, rfl⟩
  obtain ⟨GJ, hGJ⟩ : ∃ g, gu (hN xs x j) (hD xs j) = g := ⟨_, rfl⟩
  rw [hGI] at gi si ho
  rw [hGJ] at gj sj ho
  have HI := Lib.hid gi
  have HJ := Lib.hid gj
  have HC := Lib.hid (fun W => cmpFloat_any GI GJ o W si sj ho)
  have k1 : 0 ≤ (i : Int) := by omega
  have k2 : (i : Int) < (xs.length : Int) := by omega
  have k3 : 0 ≤ (j : Int) := by omega
  have k4 : (j : Int) < (xs.length : Int) := by omega
  clear hL hg hab hcd ti tj xi xj ni nj ho hoo si sj gi gj ei ej hGI hGJ ri rj
  go_enter Try.func71, Try.ntmps71
  go_wp2
  go_region_held3 (fun w' => w'.cell? ⟨gl, 0, none⟩ = some (.slice (some ⟨g1, 0, none⟩) xs.length c1) ∧ w'.cell? ⟨gx, 0, none⟩ = some (.int .i64 x) ∧ w'.cell? ⟨g1, i * 2, none⟩ = some (.int .i64 a) ∧ w'.cell? ⟨g1, i * 2 + 1, none⟩ = some (.int .i64 b) ∧ w'.cell? ⟨g1, j * 2, none⟩ = some (.int .i64 c) ∧ w'.cell? ⟨g1, j * 2 + 1, none⟩ = some (.int .i64 d)) (go_keep)
    (first | (go_at_call 73; (with_reducible refine (HI.out _).mono ?_); rintro e w1 ⟨rfl, hb⟩; (have d0 := cellB hb (b := gl) (o := 0) (x := .slice (some ⟨g1, 0, none⟩) xs.length c1) (by go_simp)); (have d1 := cellB hb (b := gx) (o := 0) (x := .int .i64 x) (by go_simp)); (have d2 := cellB hb (b := g1) (o := i * 2) (x := .int .i64 a) (by go_simp)); (have d3 := cellB hb (b := g1) (o := i * 2 + 1) (x := .int .i64 b) (by go_simp)); (have d4 := cellB hb (b := g1) (o := j * 2) (x := .int .i64 c) (by go_simp)); (have d5 := cellB hb (b := g1) (o := j * 2 + 1) (x := .int .i64 d) (by go_simp)); (have hB : Below w.heap.size w w1 := by (refine Below.trans ?_ (hb.mono (by first | (simp; done) | omega | (simp; omega))); go_grown)); (have hz := hB.size); clear hb) | (go_at_call 73; (with_reducible refine (HJ.out _).mono ?_); rintro e w1 ⟨rfl, hb⟩; (have d0 := cellB hb (b := gl) (o := 0) (x := .slice (some ⟨g1, 0, none⟩) xs.length c1) (by go_simp)); (have d1 := cellB hb (b := gx) (o := 0) (x := .int .i64 x) (by go_simp)); (have d2 := cellB hb (b := g1) (o := i * 2) (x := .int .i64 a) (by go_simp)); (have d3 := cellB hb (b := g1) (o := i * 2 + 1) (x := .int .i64 b) (by go_simp)); (have d4 := cellB hb (b := g1) (o := j * 2) (x := .int .i64 c) (by go_simp)); (have d5 := cellB hb (b := g1) (o := j * 2 + 1) (x := .int .i64 d) (by go_simp)); (have hB : Below w.heap.size w w1 := by (refine Below.trans ?_ (hb.mono (by first | (simp; done) | omega | (simp; omega))); go_grown)); (have hz := hB.size); clear hb) | (go_at_call 72; (with_reducible refine (HC.out _).mono ?_); rintro e w1 ⟨rfl, rfl⟩))
  go_wp2
  go_ret
  exact ⟨rfl, by go_grown⟩

set_option maxHeartbeats 1000000 in
theorem eqFn_any (xs : List (Int × Int)) (x : Int) (i m gl gx gh : Nat) (u : Value) (B T : Nat) (r : Bool) (w : World) (hL : PairsIn 55 w B T u xs) (hg : goodT xs) (hl : w.cell? ⟨gl, 0, none⟩ = some u) (hx : w.cell? ⟨gx, 0, none⟩ = some (.int .i64 x)) (x0 : 0 ≤ x) (hi : i < xs.length) (hm : m < xs.length) (ri : reachP xs x i = true) (h0 : w.cell? ⟨gh, 0, none⟩ = some (.int .i64 (lowA (hN xs x m) (hD xs m) : Nat))) (h1 : w.cell? ⟨gh, 1, none⟩ = some (.int .i64 (lowB (hN xs x m) (hD xs m) : Nat)))
    (hr : decide (leH xs x i m ∧ leH xs x m i) = r) :
    Calls Try.prog 76 #[.int .i64 i, .pointer (some ⟨gl, 0, none⟩), .pointer (some ⟨gx, 0, none⟩), .pointer (some ⟨gh, 0, none⟩)] w fun e w' => e = .returned (.bool r) ∧ Below w.heap.size w w' := by
  obtain ⟨g1, c1, rfl⟩ := list_form hL (by omega)
  obtain ⟨a, b, hab⟩ : ∃ a b, xs.getD i (0, 0) = (a, b) := ⟨_, _, rfl⟩
  obtain ⟨e0, e1⟩ := elem_cells hL i hi a b hab
  have ti := hg.at i hi
  have xi : 0 ≤ x ∧ x ≤ a := ⟨x0, by have := of_decide_eq_true ri; rw [hab] at this; exact this⟩
  have hh := fun W => heightOf_any a b x W (by rw [hab] at ti; exact ti) xi
  have ei : hgt a b x = hN xs x i := by unfold hN; rw [hab]
  have ed : a.toNat = hD xs i := by unfold hD; rw [hab]
  rw [ei, ed] at hh
  have hq := low_eq (hN xs x i) (hD xs i) (hN xs x m) (hD xs m) (hD_pos hg i hi) (hD_pos hg m hm)
  obtain ⟨P, hP⟩ : ∃ p, lowA (hN xs x i) (hD xs i) = p := ⟨_, rfl⟩
  obtain ⟨Q, hQ⟩ : ∃ p, lowB (hN xs x i) (hD xs i) = p := ⟨_, rfl⟩
  obtain ⟨R, hR⟩ : ∃ p, lowA (hN xs x m) (hD xs m) = p := ⟨_, rfl⟩
  obtain ⟨S, hS⟩ : ∃ p, lowB (hN xs x m) (hD xs m) = p := ⟨_, rfl⟩
  rw [hP, hQ] at hh hq
  rw [hR] at h0 hq
  rw [hS] at h1 hq
  have hr2 : decide (P = R ∧ Q = S) = r := by
    rw [← hr, decide_eq_decide, hq]
    unfold leH
    omega
  have HH := Lib.hid hh
  have k1 : 0 ≤ (i : Int) := by omega
  have k2 : (i : Int) < (xs.length : Int) := by omega
  clear hL hg hab ti xi hh ei ed hq hP hQ hR hS hr ri
  by_cases hPR : P = R
  · subst hPR
    by_cases hQS : Q = S
    · subst hQS
      have hr3 : r = true := by rw [← hr2]; simp
      subst hr3
      clear hr2
      go_enter Try.func76, Try.ntmps76
      go_wp2
      go_region_held3 (fun w' => w'.cell? ⟨gl, 0, none⟩ = some (.slice (some ⟨g1, 0, none⟩) xs.length c1) ∧ w'.cell? ⟨gx, 0, none⟩ = some (.int .i64 x) ∧ w'.cell? ⟨g1, i * 2, none⟩ = some (.int .i64 a) ∧ w'.cell? ⟨g1, i * 2 + 1, none⟩ = some (.int .i64 b) ∧ w'.cell? ⟨gh, 0, none⟩ = some (.int .i64 (P : Nat)) ∧ w'.cell? ⟨gh, 1, none⟩ = some (.int .i64 (Q : Nat))) (go_keep)
        (first | (go_at_call 74; (with_reducible refine (HH.out _).mono ?_); rintro e w1 ⟨rfl, hb⟩; (have d0 := cellB hb (b := gl) (o := 0) (x := .slice (some ⟨g1, 0, none⟩) xs.length c1) (by go_simp)); (have d1 := cellB hb (b := gx) (o := 0) (x := .int .i64 x) (by go_simp)); (have d2 := cellB hb (b := g1) (o := i * 2) (x := .int .i64 a) (by go_simp)); (have d3 := cellB hb (b := g1) (o := i * 2 + 1) (x := .int .i64 b) (by go_simp)); (have d4 := cellB hb (b := gh) (o := 0) (x := .int .i64 (P : Nat)) (by go_simp)); (have d5 := cellB hb (b := gh) (o := 1) (x := .int .i64 (Q : Nat)) (by go_simp)); (have hB : Below w.heap.size w w1 := by (refine Below.trans ?_ (hb.mono (by first | (simp; done) | omega | (simp; omega))); go_grown)); (have hz := hB.size); clear hb))
      go_wp2
      go_ret
      exact ⟨rfl, by go_grown⟩
    · have hr3 : r = false := by rw [← hr2]; simp [hQS]
      have hQS2 : ((Q : Int) == (S : Int)) = false := beq_eq_false_iff_ne.2 (by omega)
      subst hr3
      clear hr2
      go_enter Try.func76, Try.ntmps76
      go_wp2
      go_region_held3 (fun w' => w'.cell? ⟨gl, 0, none⟩ = some (.slice (some ⟨g1, 0, none⟩) xs.length c1) ∧ w'.cell? ⟨gx, 0, none⟩ = some (.int .i64 x) ∧ w'.cell? ⟨g1, i * 2, none⟩ = some (.int .i64 a) ∧ w'.cell? ⟨g1, i * 2 + 1, none⟩ = some (.int .i64 b) ∧ w'.cell? ⟨gh, 0, none⟩ = some (.int .i64 (P : Nat)) ∧ w'.cell? ⟨gh, 1, none⟩ = some (.int .i64 (S : Nat))) (go_keep)
        (first | (go_at_call 74; (with_reducible refine (HH.out _).mono ?_); rintro e w1 ⟨rfl, hb⟩; (have d0 := cellB hb (b := gl) (o := 0) (x := .slice (some ⟨g1, 0, none⟩) xs.length c1) (by go_simp)); (have d1 := cellB hb (b := gx) (o := 0) (x := .int .i64 x) (by go_simp)); (have d2 := cellB hb (b := g1) (o := i * 2) (x := .int .i64 a) (by go_simp)); (have d3 := cellB hb (b := g1) (o := i * 2 + 1) (x := .int .i64 b) (by go_simp)); (have d4 := cellB hb (b := gh) (o := 0) (x := .int .i64 (P : Nat)) (by go_simp)); (have d5 := cellB hb (b := gh) (o := 1) (x := .int .i64 (S : Nat)) (by go_simp)); (have hB : Below w.heap.size w w1 := by (refine Below.trans ?_ (hb.mono (by first | (simp; done) | omega | (simp; omega))); go_grown)); (have hz := hB.size); clear hb))
      go_wp2
      go_ret
      exact ⟨rfl, by go_grown⟩
  · have hr3 : r = false := by rw [← hr2]; simp [hPR]
    have hPR2 : ((P : Int) == (R : Int)) = false := beq_eq_false_iff_ne.2 (by omega)
    subst hr3
    clear hr2
    go_enter Try.func76, Try.ntmps76
    go_wp2
    go_region_held3 (fun w' => w'.cell? ⟨gl, 0, none⟩ = some (.slice (some ⟨g1, 0, none⟩) xs.length c1) ∧ w'.cell? ⟨gx, 0, none⟩ = some (.int .i64 x) ∧ w'.cell? ⟨g1, i * 2, none⟩ = some (.int .i64 a) ∧ w'.cell? ⟨g1, i * 2 + 1, none⟩ = some (.int .i64 b) ∧ w'.cell? ⟨gh, 0, none⟩ = some (.int .i64 (R : Nat)) ∧ w'.cell? ⟨gh, 1, none⟩ = some (.int .i64 (S : Nat))) (go_keep)
      (first | (go_at_call 74; (with_reducible refine (HH.out _).mono ?_); rintro e w1 ⟨rfl, hb⟩; (have d0 := cellB hb (b := gl) (o := 0) (x := .slice (some ⟨g1, 0, none⟩) xs.length c1) (by go_simp)); (have d1 := cellB hb (b := gx) (o := 0) (x := .int .i64 x) (by go_simp)); (have d2 := cellB hb (b := g1) (o := i * 2) (x := .int .i64 a) (by go_simp)); (have d3 := cellB hb (b := g1) (o := i * 2 + 1) (x := .int .i64 b) (by go_simp)); (have d4 := cellB hb (b := gh) (o := 0) (x := .int .i64 (R : Nat)) (by go_simp)); (have d5 := cellB hb (b := gh) (o := 1) (x := .int .i64 (S : Nat)) (by go_simp)); (have hB : Below w.heap.size w w1 := by (refine Below.trans ?_ (hb.mono (by first | (simp; done) | omega | (simp; omega))); go_grown)); (have hz := hB.size); clear hb))
    go_wp2
    go_ret
    exact ⟨rfl, by go_grown⟩

end Go.Proofs.Ytngonpiiehmlaab
