/- slices.SortStableFunc at ints, fewer than forty. -/
import Derived.Test.YtnldnjgnpdicnaaSb7
import Derived.Test.YtnldnjgnpdicnaaSb8
namespace Go.Proofs.Ytnldnjgnpdicnaa
open Go.RowKit
set_option linter.unusedVariables false

theorem sym_all {M : List Int} {L : Int → Int → Bool} {cf : Int → Int → Int} (O : OrdS M L cf) (B g n cap : Nat) (p q : Addr) (W0 : World) (hC : CmpC g W0 M cf p q) (hn : n ≤ 1000) : ∀ sz, SymC B g n cap M L p q W0 sz
  | 0 => fun a m b P X Y S w h1 _ _ _ h2 h3 => by omega
  | sz + 1 => fun a m b P X Y S w h1 hW h hM h2 h3 => by
    have ih := sym_all O B g n cap p q W0 hC hn sz
    have e2 := hM.hX
    have e3 := hM.hY
    by_cases f1 : X.length = 1
    · obtain ⟨x, rfl⟩ := List.length_eq_one_iff.1 f1
      exact symMerge_one O B g n cap a m b P Y S x p q W0 w hC hn hW h hM h3
    · by_cases f2 : Y.length = 1
      · obtain ⟨x, rfl⟩ := List.length_eq_one_iff.1 f2
        exact symMerge_last O B g n cap a m b P X S x p q W0 w hC hn hW h hM (by omega)
      · by_cases f3 : (a + b) / 2 < m
        · exact symMerge_hi O B g n cap a m b sz P X Y S p q W0 w hC ih hn (by omega) hW h hM (by omega) (by omega) f3
        · exact symMerge_lo O B g n cap a m b sz P X Y S p q W0 w hC ih hn (by omega) hW h hM (by omega) (by omega) (by omega)

set_option maxHeartbeats 400000 in
theorem insertion_none (v fv : Value) (w : World) : Calls Try.prog 145 #[v, .int .i64 0, .int .i64 0, fv] w fun e w' => e = .returned (.tuple #[]) ∧ w = w' := by
  go_enter Try.func145, Try.ntmps145
  go_wp2
  refine wp_loop_rounds 1 ?_
  rw [rounds_succ]
  go_wp2
  go_end0
  exact ⟨rfl, rfl⟩

set_option maxHeartbeats 400000 in
theorem stable_none (v fv : Value) (w : World) : Calls Try.prog 120 #[v, .int .i64 0, fv] w fun e w' => e = .returned (.tuple #[]) ∧ w = w' := by
  go_enter Try.func120, Try.ntmps120
  go_wp2
  refine wp_loop_rounds 1 ?_
  rw [rounds_succ]
  go_wp2_with (first | (go_at_call 145; (refine (insertion_none _ _ _).mono ?_); rintro e w1 ⟨rfl, rfl⟩))
  refine wp_loop_rounds 1 ?_
  rw [rounds_succ]
  go_wp2
  go_end0
  exact ⟨rfl, rfl⟩

set_option maxHeartbeats 4000000 in
theorem stable_few {M : List Int} {L : Int → Int → Bool} {cf : Int → Int → Int} (O : OrdS M L cf) (B g n cap : Nat) (xs : List Int) (p q : Addr) (W0 w : World) (hW : Only g (g + 1) W0 w) (hC : CmpC g W0 M cf p q) (h : RowS w B g n cap xs) (hX : ∀ z ∈ xs, z ∈ M) (hi : xs.Pairwise (· < ·)) (hn : n < 20) :
    Calls Try.prog 120 #[(.slice (some ⟨g, 0, none⟩) n cap), .int .i64 (n : Int), (.func (.func 68) #[] #[.pointer (some p), .pointer (some q)])] w fun e w' => e = .returned (.tuple #[]) ∧ (∃ Z, RowS w' B g n cap Z ∧ Z.Perm xs ∧ SortS L Z) ∧ Only g (g + 1) w w' := by
  have hl := h.2
  have HI := Lib.hid (fun (w1 : World) (h1 : w1 = w) => insertion_any O B g n cap 0 n [] xs [] p q W0 w hW hC (by simpa using h) rfl (by omega) hX hi (by omega))
  have h0 : ¬ (20 : Int) ≤ (n : Int) := by omega
  have h1 : ¬ (20 : Int) < (n : Int) := by omega
  clear h hC hX hi hl
  go_enter Try.func120, Try.ntmps120
  go_wp2
  refine wp_loop_rounds 1 ?_
  rw [rounds_succ]
  go_wp2_with (first | (go_at_call 145; (refine (HI.out _ rfl).mono ?_); rintro e w1 ⟨rfl, ⟨Z, hR, hp, hs⟩, hO⟩; (have HR := Lib.hid hR); clear hR))
  refine wp_loop_rounds 1 ?_
  rw [rounds_succ]
  go_wp2
  go_end0
  exact ⟨rfl, ⟨Z, by simpa using HR.out, hp, hs⟩, hO⟩

theorem sorted_cut {xs : List Int} (hi : xs.Pairwise (· < ·)) (k : Nat) : ∀ x ∈ xs.take k, ∀ y ∈ xs.drop k, x < y := by
  rw [← List.take_append_drop k xs] at hi
  exact (List.pairwise_append.1 hi).2.2

set_option maxHeartbeats 4000000 in
theorem stable_twenty {M : List Int} {L : Int → Int → Bool} {cf : Int → Int → Int} (O : OrdS M L cf) (B g n cap : Nat) (xs : List Int) (p q : Addr) (W0 w : World) (hW : Only g (g + 1) W0 w) (hC : CmpC g W0 M cf p q) (h : RowS w B g n cap xs) (hX : ∀ z ∈ xs, z ∈ M) (hi : xs.Pairwise (· < ·)) (hn : n = 20) :
    Calls Try.prog 120 #[(.slice (some ⟨g, 0, none⟩) n cap), .int .i64 (n : Int), (.func (.func 68) #[] #[.pointer (some p), .pointer (some q)])] w fun e w' => e = .returned (.tuple #[]) ∧ (∃ Z, RowS w' B g n cap Z ∧ Z.Perm xs ∧ SortS L Z) ∧ Only g (g + 1) w w' := by
  have hl := h.2
  have ht : (xs.take 20).length = 20 := by rw [List.length_take]; omega
  have hd : (xs.drop 20).length = n - 20 := by rw [List.length_drop]; omega
  have mt : ∀ z ∈ xs.take 20, z ∈ M := fun z hz => hX z (List.mem_of_mem_take hz)
  have md : ∀ z ∈ xs.drop 20, z ∈ M := fun z hz => hX z (List.mem_of_mem_drop hz)
  have HI1 := Lib.hid (fun (w1 : World) (h1 : w1 = w) => insertion_any O B g n cap 0 20 [] (xs.take 20) (xs.drop 20) p q W0 w hW hC (by simpa using h) rfl (by omega) mt (hi.sublist (List.take_sublist _ _)) (by omega))
  have HI2 := Lib.hid (fun (w1 : World) (Z : List Int) (hO : Only g (g + 1) W0 w1) (hr : RowS w1 B g n cap ([] ++ Z ++ xs.drop 20)) (hp : Z.Perm (xs.take 20)) => insertion_any O B g n cap 20 n Z (xs.drop 20) [] p q W0 w1 hO hC (by simpa using hr) (by rw [hp.length_eq, ht]) (by omega) md (hi.sublist (List.drop_sublist _ _)) (by omega))
  have HI3 := Lib.hid (fun (w1 : World) (Z1 Z2 : List Int) (hO : Only g (g + 1) W0 w1) (hr : RowS w1 B g n cap (Z1 ++ Z2 ++ [])) (p1 : Z1.Perm (xs.take 20)) (p2 : Z2.Perm (xs.drop 20)) (s1 : SortS L Z1) (s2 : SortS L Z2) (h20 : 20 < n) =>
    sym_all O B g n cap p q W0 hC (by omega) n 0 20 n [] Z1 Z2 [] w1 (by omega) hO (by simpa using hr) ⟨rfl, by rw [p1.length_eq, ht], by rw [p2.length_eq, hd]; omega, by simp [p1.length_eq, p2.length_eq]; omega, fun z hz => by
      rcases List.mem_append.1 hz with e | e
      · exact mt z (p1.subset e)
      · exact md z (p2.subset e), s1, s2, fun x hx y hy => sorted_cut hi 20 x (p1.subset hx) y (p2.subset hy)⟩ (by omega) h20)
  have HT := Lib.hid ht
  have HFIN : Hid (∀ Z1 Z2 : List Int, Z1.Perm (xs.take 20) → Z2.Perm (xs.drop 20) → (Z1 ++ Z2).Perm xs) := Lib.hid (fun Z1 Z2 p1 p2 => by
    have := p1.append p2
    rwa [List.take_append_drop] at this)
  subst hn
  have HNIL := Lib.hid (show xs.drop 20 = [] from List.eq_nil_of_length_eq_zero (by omega))
  clear h hC hX hi hl ht hd mt md
  go_enter Try.func120, Try.ntmps120
  go_wp2
  refine wp_loop_rounds 2 ?_
  rw [rounds_succ]
  go_wp2_with (first | (go_at_call 145; (refine (HI1.out _ rfl).mono ?_); rintro e w1 ⟨rfl, ⟨Z1, hR1, p1, s1⟩, hO1⟩; (have HR1 := Lib.hid hR1); clear hR1))
  rw [rounds_succ]
  go_wp2_with (first | (go_at_call 145; (refine (HI2.out _ Z1 (hW.trans hO1) HR1.out p1).mono ?_); rintro e w2 ⟨rfl, ⟨Z2, hR2, p2, s2⟩, hO2⟩; (have HR2 := Lib.hid hR2); clear hR2))
  refine wp_loop_rounds 1 ?_
  rw [rounds_succ]
  go_wp2
  go_end0
  have hz2 : Z2 = [] := List.Perm.eq_nil (by rw [HNIL.out] at p2; exact p2)
  subst hz2
  exact ⟨rfl, ⟨Z1, by simpa using HR2.out, by simpa using HFIN.out _ _ p1 p2, s1⟩, hO1.trans hO2⟩

set_option maxHeartbeats 4000000 in
theorem stable_more {M : List Int} {L : Int → Int → Bool} {cf : Int → Int → Int} (O : OrdS M L cf) (B g n cap : Nat) (xs : List Int) (p q : Addr) (W0 w : World) (hW : Only g (g + 1) W0 w) (hC : CmpC g W0 M cf p q) (h : RowS w B g n cap xs) (hX : ∀ z ∈ xs, z ∈ M) (hi : xs.Pairwise (· < ·)) (hn : 20 < n ∧ n < 40) :
    Calls Try.prog 120 #[(.slice (some ⟨g, 0, none⟩) n cap), .int .i64 (n : Int), (.func (.func 68) #[] #[.pointer (some p), .pointer (some q)])] w fun e w' => e = .returned (.tuple #[]) ∧ (∃ Z, RowS w' B g n cap Z ∧ Z.Perm xs ∧ SortS L Z) ∧ Only g (g + 1) w w' := by
  have hl := h.2
  have ht : (xs.take 20).length = 20 := by rw [List.length_take]; omega
  have hd : (xs.drop 20).length = n - 20 := by rw [List.length_drop]; omega
  have mt : ∀ z ∈ xs.take 20, z ∈ M := fun z hz => hX z (List.mem_of_mem_take hz)
  have md : ∀ z ∈ xs.drop 20, z ∈ M := fun z hz => hX z (List.mem_of_mem_drop hz)
  have HI1 := Lib.hid (fun (w1 : World) (h1 : w1 = w) => insertion_any O B g n cap 0 20 [] (xs.take 20) (xs.drop 20) p q W0 w hW hC (by simpa using h) rfl (by omega) mt (hi.sublist (List.take_sublist _ _)) (by omega))
  have HI2 := Lib.hid (fun (w1 : World) (Z : List Int) (hO : Only g (g + 1) W0 w1) (hr : RowS w1 B g n cap ([] ++ Z ++ xs.drop 20)) (hp : Z.Perm (xs.take 20)) => insertion_any O B g n cap 20 n Z (xs.drop 20) [] p q W0 w1 hO hC (by simpa using hr) (by rw [hp.length_eq, ht]) (by omega) md (hi.sublist (List.drop_sublist _ _)) (by omega))
  have HI3 := Lib.hid (fun (w1 : World) (Z1 Z2 : List Int) (hO : Only g (g + 1) W0 w1) (hr : RowS w1 B g n cap (Z1 ++ Z2 ++ [])) (p1 : Z1.Perm (xs.take 20)) (p2 : Z2.Perm (xs.drop 20)) (s1 : SortS L Z1) (s2 : SortS L Z2) (h20 : 20 < n) =>
    sym_all O B g n cap p q W0 hC (by omega) n 0 20 n [] Z1 Z2 [] w1 (by omega) hO (by simpa using hr) ⟨rfl, by rw [p1.length_eq, ht], by rw [p2.length_eq, hd]; omega, by simp [p1.length_eq, p2.length_eq]; omega, fun z hz => by
      rcases List.mem_append.1 hz with e | e
      · exact mt z (p1.subset e)
      · exact md z (p2.subset e), s1, s2, fun x hx y hy => sorted_cut hi 20 x (p1.subset hx) y (p2.subset hy)⟩ (by omega) h20)
  have HT := Lib.hid ht
  have HFIN : Hid (∀ Z1 Z2 : List Int, Z1.Perm (xs.take 20) → Z2.Perm (xs.drop 20) → (Z1 ++ Z2).Perm xs) := Lib.hid (fun Z1 Z2 p1 p2 => by
    have := p1.append p2
    rwa [List.take_append_drop] at this)
  have g0 : (20 : Int) ≤ (n : Int) := by omega
  have g1 : ¬ (40 : Int) ≤ (n : Int) := by omega
  have g2 : (20 : Int) < (n : Int) := by omega
  have g3 : ¬ (40 : Int) < (n : Int) := by omega
  clear h hC hX hi hl ht hd mt md
  go_enter Try.func120, Try.ntmps120
  go_wp2
  refine wp_loop_rounds 2 ?_
  rw [rounds_succ]
  go_wp2_with (first | (go_at_call 145; (refine (HI1.out _ rfl).mono ?_); rintro e w1 ⟨rfl, ⟨Z1, hR1, p1, s1⟩, hO1⟩; (have HR1 := Lib.hid hR1); clear hR1))
  rw [rounds_succ]
  go_wp2_with (first | (go_at_call 145; (refine (HI2.out _ Z1 (hW.trans hO1) HR1.out p1).mono ?_); rintro e w2 ⟨rfl, ⟨Z2, hR2, p2, s2⟩, hO2⟩; (have HR2 := Lib.hid hR2); clear hR2))
  refine wp_loop_rounds 2 ?_
  rw [rounds_succ]
  go_wp2
  refine wp_loop_rounds 1 ?_
  rw [rounds_succ]
  go_wp2_with (first | (go_at_call 146; (refine (HI3.out _ Z1 Z2 ((hW.trans hO1).trans hO2) HR2.out p1 p2 s1 s2 (by omega)).mono ?_); rintro e w3 ⟨rfl, ⟨Z3, hR3, p3, s3⟩, hO3⟩; (have HR3 := Lib.hid hR3); clear hR3))
  rw [rounds_succ]
  go_wp2
  go_end0
  exact ⟨rfl, ⟨Z3, by simpa using HR3.out, p3.trans (HFIN.out _ _ p1 p2), s3⟩, (hO1.trans hO2).trans hO3⟩

theorem stable_any {M : List Int} {L : Int → Int → Bool} {cf : Int → Int → Int} (O : OrdS M L cf) (B g n cap : Nat) (xs : List Int) (p q : Addr) (W0 w : World) (hW : Only g (g + 1) W0 w) (hC : CmpC g W0 M cf p q) (h : RowS w B g n cap xs) (hX : ∀ z ∈ xs, z ∈ M) (hi : xs.Pairwise (· < ·)) (hn : n < 40) :
    Calls Try.prog 120 #[(.slice (some ⟨g, 0, none⟩) n cap), .int .i64 (n : Int), (.func (.func 68) #[] #[.pointer (some p), .pointer (some q)])] w fun e w' => e = .returned (.tuple #[]) ∧ (∃ Z, RowS w' B g n cap Z ∧ Z.Perm xs ∧ SortS L Z) ∧ Only g (g + 1) w w' := by
  by_cases h1 : n < 20
  · exact stable_few O B g n cap xs p q W0 w hW hC h hX hi h1
  · by_cases h2 : n = 20
    · exact stable_twenty O B g n cap xs p q W0 w hW hC h hX hi h2
    · exact stable_more O B g n cap xs p q W0 w hW hC h hX hi (by omega)

/-- Fewer than forty ints, in the order of their making, sorted by a comparison; equal ones stay in order. -/
theorem sortStable_any {M : List Int} {L : Int → Int → Bool} {cf : Int → Int → Int} (O : OrdS M L cf) (B : Nat) (v : Value) (xs : List Int) (p q : Addr) (w : World) (h : Ints w B 3 v xs) (hC : ∀ g, B ≤ g → CmpC g w M cf p q) (hB : B ≤ w.heap.size) (hX : ∀ z ∈ xs, z ∈ M) (hi : xs.Pairwise (· < ·)) (hn : xs.length < 40) :
    Calls Try.prog 67 #[v, (.func (.func 68) #[] #[.pointer (some p), .pointer (some q)])] w fun e w' => e = .returned (.tuple #[]) ∧ (∃ Z, Ints w' B 3 v Z ∧ Z.Perm xs ∧ SortS L Z) ∧ Below B w w' := by
  obtain ⟨a0, cap, g, rfl, ha, _, _, hg, _, _⟩ := h.view
  by_cases h0 : xs.length = 0
  · have hx : xs = [] := List.eq_nil_of_length_eq_zero h0
    subst hx
    have H := Lib.hid h
    clear h hC hX hi ha hg
    go_enter Try.func67, Try.ntmps67
    go_wp2_with (first | (go_at_call 120; (refine (stable_none _ _ _).mono ?_); rintro e w1 ⟨rfl, rfl⟩))
    go_end0
    exact ⟨rfl, ⟨[], H.out, List.Perm.refl _, by unfold SortS; simp⟩, Below.refl _ _⟩
  · obtain rfl := ha (by omega)
    obtain ⟨hg1, hg2⟩ := hg (by omega)
    have HS := Lib.hid (stable_any O B g xs.length cap xs p q w w (Only.refl _ _ _) (hC g hg1) ⟨h, rfl⟩ hX hi hn)
    clear h hC hX hi ha hg
    go_enter Try.func67, Try.ntmps67
    go_wp2_with (first | (go_at_call 120; (refine HS.out.mono ?_); rintro e w1 ⟨rfl, ⟨Z, hR, p1, s1⟩, hO⟩; (have HR := Lib.hid hR); clear hR))
    go_end0
    exact ⟨rfl, ⟨Z, HR.out.1, p1, s1⟩, hO.below hg1 (by omega)⟩
end Go.Proofs.Ytnldnjgnpdicnaa
