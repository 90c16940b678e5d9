/- slices.insertionSortCmpFunc at ints, by a comparison that tells of later elements and earlier ones. -/
import Derived.Test.YtnldnjgnpdicnaaSb2
namespace Go.Proofs.Ytnldnjgnpdicnaa
open Go.RowKit
set_option linter.unusedVariables false

/-- What the comparison's closure answers while the block g alone changes. -/
def CmpC (g : Nat) (W0 : World) (M : List Int) (cf : Int → Int → Int) (p q : Addr) : Prop :=
  ∀ (W : World) (x y : Int), Only g (g + 1) W0 W → x ∈ M → y ∈ M → Calls Try.prog 68 #[.int .i64 x, .int .i64 y, .pointer (some p), .pointer (some q)] W fun e w' => e = .returned (.int .i64 (cf x y)) ∧ Below W.heap.size W w'

/-- t elements in order, and the next one on its way down at j. -/
def InsL (L : Int → Int → Bool) (P X S : List Int) (t j : Nat) (ys : List Int) : Prop :=
  ∃ (Z1 Z2 : List Int) (x : Int), ys = P ++ Z1 ++ x :: Z2 ++ X.drop (t + 1) ++ S ∧ X.take (t + 1) = X.take t ++ [x] ∧ P.length + Z1.length = j ∧ (Z1 ++ Z2).Perm (X.take t) ∧ SortS L (Z1 ++ Z2) ∧ ∀ z ∈ Z2, L x z = true

theorem InsL.start {L : Int → Int → Bool} {P X S Z : List Int} {t j : Nat} (ht : t < X.length) (hz : Z.Perm (X.take t)) (hs : SortS L Z) (hj : P.length + t = j) : InsL L P X S t j (P ++ Z ++ X.drop t ++ S) := by
  obtain ⟨x, X', h1, h2, h3⟩ := drop_splitS X t ht
  refine ⟨Z, [], x, by rw [h1, h3]; simp, h2, ?_, by simpa using hz, by simpa using hs, by simp⟩
  rw [hz.length_eq, List.length_take]; omega

theorem last_splitS : ∀ (Z : List Int), 0 < Z.length → ∃ Y z, Z = Y ++ [z]
  | Z, h => ⟨Z.dropLast, Z.getLast (by intro e; subst e; simp at h), (List.dropLast_concat_getLast _).symm⟩

theorem InsL.at {L : Int → Int → Bool} {M P X S ys : List Int} {t j : Nat} (h : InsL L P X S t j ys) (hX : ∀ z ∈ X, z ∈ M) (hi : X.Pairwise (· < ·)) (hj : P.length < j) :
    ys.getD j 0 ∈ M ∧ ys.getD (j - 1) 0 ∈ M ∧ ys.getD (j - 1) 0 < ys.getD j 0 ∧ (L (ys.getD j 0) (ys.getD (j - 1) 0) = true → InsL L P X S t (j - 1) (sw ys j (j - 1))) := by
  obtain ⟨Z1, Z2, x, rfl, ht, hl, hp, hs, h2⟩ := h
  obtain ⟨Y, z, rfl⟩ := last_splitS Z1 (by omega)
  simp only [List.length_append, List.length_singleton] at hl
  have e1 : P ++ (Y ++ [z]) ++ x :: Z2 ++ X.drop (t + 1) ++ S = (P ++ Y) ++ z :: [] ++ x :: (Z2 ++ X.drop (t + 1) ++ S) := by simp
  have hzt : z ∈ X.take t := hp.subset (by simp)
  have hxm : x ∈ X := List.mem_of_mem_take (ht ▸ (by simp : x ∈ X.take t ++ [x]))
  have hzx : z < x := by
    have h := hi.sublist (List.take_sublist (t + 1) X)
    rw [ht] at h
    exact (List.pairwise_append.1 h).2.2 z hzt x (by simp)
  rw [e1]
  have g1 : ((P ++ Y) ++ z :: [] ++ x :: (Z2 ++ X.drop (t + 1) ++ S)).getD j 0 = x := getD_midS _ _ _ _ (by simp; omega)
  have g2 : ((P ++ Y) ++ z :: [] ++ x :: (Z2 ++ X.drop (t + 1) ++ S)).getD (j - 1) 0 = z := by
    rw [List.append_assoc (P ++ Y), List.cons_append]; exact getD_midS _ _ _ _ (by simp; omega)
  rw [g1, g2, sw_comm _ _ _ _ _ _ _ (by simp; omega) (by simp; omega)]
  refine ⟨hX _ hxm, hX _ (List.mem_of_mem_take hzt), hzx, fun hL => ⟨Y, z :: Z2, x, by simp, ht, by omega, ?_, ?_, ?_⟩⟩
  · simpa using hp
  · simpa using hs
  · intro y hy
    rcases List.mem_cons.1 hy with rfl | hy
    · exact hL
    · exact h2 y hy

theorem InsL.stop {L : Int → Int → Bool} {cf : Int → Int → Int} {M P X S ys : List Int} {t j : Nat} (O : OrdS M L cf) (h : InsL L P X S t j ys) (hX : ∀ z ∈ X, z ∈ M) (hi : X.Pairwise (· < ·))
    (hj : j = P.length ∨ (P.length < j ∧ L (ys.getD j 0) (ys.getD (j - 1) 0) = false)) : ∃ Z, ys = P ++ Z ++ X.drop (t + 1) ++ S ∧ Z.Perm (X.take (t + 1)) ∧ SortS L Z := by
  have hat := h.at hX hi
  obtain ⟨Z1, Z2, x, rfl, ht, hl, hp, hs, h2⟩ := h
  have hxm : x ∈ X := List.mem_of_mem_take (ht ▸ (by simp : x ∈ X.take t ++ [x]))
  refine ⟨Z1 ++ x :: Z2, by simp, ?_, ?_⟩
  · rw [ht]
    exact List.perm_middle.trans ((List.Perm.cons x hp).trans (List.perm_append_singleton x _).symm)
  · rcases hj with e | ⟨e, hLf⟩
    · have : Z1 = [] := List.eq_nil_of_length_eq_zero (by omega)
      subst this
      exact sort_insert hs (by simp) h2
    · obtain ⟨m1, m2, lt, _⟩ := hat e
      obtain ⟨Y, z, rfl⟩ := last_splitS Z1 (by omega)
      simp only [List.length_append, List.length_singleton] at hl
      have e1 : P ++ (Y ++ [z]) ++ x :: Z2 ++ X.drop (t + 1) ++ S = (P ++ Y) ++ z :: [] ++ x :: (Z2 ++ X.drop (t + 1) ++ S) := by simp
      rw [e1] at hLf m1 m2 lt
      have g1 : ((P ++ Y) ++ z :: [] ++ x :: (Z2 ++ X.drop (t + 1) ++ S)).getD j 0 = x := getD_midS _ _ _ _ (by simp; omega)
      have g2 : ((P ++ Y) ++ z :: [] ++ x :: (Z2 ++ X.drop (t + 1) ++ S)).getD (j - 1) 0 = z := by
        rw [List.append_assoc (P ++ Y), List.cons_append]; exact getD_midS _ _ _ _ (by simp; omega)
      rw [g1, g2] at hLf lt
      rw [g1] at m1
      rw [g2] at m2
      have hzx : L z x = true := by rw [O.tot z m2 x m1 (by omega), hLf]; rfl
      have hsz : SortS L (Y ++ [z]) := (List.pairwise_append.1 hs).1
      refine sort_insert hs (sort_ahead O hsz (fun y hy => ?_) m1 hzx) h2
      exact hX y (List.mem_of_mem_take (hp.subset (by simp at hy ⊢; rcases hy with h | h <;> simp [h])))

set_option maxHeartbeats 2000000 in
theorem insertion_any {M : List Int} {L : Int → Int → Bool} {cf : Int → Int → Int} (O : OrdS M L cf) (B g n cap a b : Nat) (P X S : List Int) (p q : Addr) (W0 w : World) (hW : Only g (g + 1) W0 w) (hC : CmpC g W0 M cf p q)
    (h : RowS w B g n cap (P ++ X ++ S)) (hP : P.length = a) (hb : a + X.length = b) (hX : ∀ z ∈ X, z ∈ M) (hi : X.Pairwise (· < ·)) (hn : n ≤ 1000) :
    Calls Try.prog 145 #[(.slice (some ⟨g, 0, none⟩) n cap), .int .i64 (a : Int), .int .i64 (b : Int), (.func (.func 68) #[] #[.pointer (some p), .pointer (some q)])] w fun e w' => e = .returned (.tuple #[]) ∧ (∃ Z, RowS w' B g n cap (P ++ Z ++ S) ∧ Z.Perm X ∧ SortS L Z) ∧ Only g (g + 1) w w' := by
  have hbn : b ≤ n := by have := h.2; simp at this; omega
  obtain ⟨m, hm⟩ : ∃ m, X.length = m := ⟨_, rfl⟩
  rw [hm] at hb
  have HM := Lib.hid hm
  have HP := Lib.hid hP
  have HX := Lib.hid hX
  have HI := Lib.hid hi
  have HC := Lib.hid hC
  have H1 := Lib.hid (show ∃ Z, RowS w B g n cap (P ++ Z ++ X.drop 1 ++ S) ∧ Z.Perm (X.take 1) ∧ SortS L Z from ⟨X.take 1, by rw [List.append_assoc P, List.take_append_drop]; exact h, List.Perm.refl _, by
    unfold SortS
    rcases X with _ | ⟨x, X⟩
    · simp
    · simp⟩)
  have HINIT := Lib.hid (fun (hm0 : m = 0) => show ∃ Z, RowS w B g n cap (P ++ Z ++ S) ∧ Z.Perm X ∧ SortS L Z from ⟨X, h, List.Perm.refl _, by have := List.eq_nil_of_length_eq_zero (HM.out.trans hm0); subst this; unfold SortS; simp⟩)
  obtain ⟨a1, ha1⟩ : ∃ a1, a1 = a + 1 := ⟨_, rfl⟩
  have hw1 : IntKind.i64.wrap ((a : Int) + 1) = (a1 : Int) := by rw [IntKind.wrap_i64]; omega
  clear hm hP hX hi hC h
  go_enter Try.func145, Try.ntmps145
  go_wp2
  go_loopw [8] (fun x wr => ∃ i t : Nat, 1 ≤ t ∧ (t ≤ m ∨ t = 1) ∧ i = a + t ∧ x = .int .i64 (i : Int) ∧ Hid (∃ Z, RowS wr B g n cap (P ++ Z ++ X.drop t ++ S) ∧ Z.Perm (X.take t) ∧ SortS L Z) ∧ Only g (g + 1) w wr) (fun x _ => b + 1 - (intOf x).toNat)
  case atStart => exact ⟨a1, 1, by omega, .inr rfl, ha1, by go_num, H1, Only.refl _ _ _⟩
  case round =>
    obtain ⟨i, t, ht1, htm, hit, rfl, HZ, hO⟩ := hrel
    by_cases hlt : i < b
    · have htm' : t < m := by omega
      have hgo : (i : Int) < (b : Int) := by omega
      have HS0 := Lib.hid (show ∃ ys, RowS wr B g n cap ys ∧ InsL L P X S t i ys from by
        obtain ⟨Z, h1, h2, h3⟩ := HZ.out
        exact ⟨_, h1, InsL.start (by rw [HM.out]; exact htm') h2 h3 (by rw [HP.out]; omega)⟩)
      have HDONE := Lib.hid (fun (w9 : World) (ys : List Int) (hr : RowS w9 B g n cap ys) (he : ∃ Z, ys = P ++ Z ++ X.drop (t + 1) ++ S ∧ Z.Perm (X.take (t + 1)) ∧ SortS L Z) => show ∃ Z, RowS w9 B g n cap (P ++ Z ++ X.drop (t + 1) ++ S) ∧ Z.Perm (X.take (t + 1)) ∧ SortS L Z from by
        obtain ⟨Z, rfl, h2, h3⟩ := he
        exact ⟨Z, hr, h2, h3⟩)
      have hai : a ≤ i := by omega
      have HIT := Lib.hid hit
      clear HZ hit
      go_wp2
      go_loopw [9] (fun y wr2 => ∃ j : Nat, a ≤ j ∧ j ≤ i ∧ y = .int .i64 (j : Int) ∧ Hid (∃ ys, RowS wr2 B g n cap ys ∧ InsL L P X S t j ys) ∧ Only g (g + 1) w wr2) (fun y _ => (intOf y).toNat)
      case atStart => exact ⟨i, by omega, by omega, rfl, HS0, hO⟩
      case round =>
        clear hO HS0
        obtain ⟨j, haj, hji, rfl, HY, hO⟩ := hrel
        obtain ⟨wo, rfl⟩ : ∃ q, q = wr := ⟨wr, rfl⟩
        obtain ⟨ys, hr, hI⟩ := HY.out
        have HR := Lib.hid hr
        have HL := Lib.hid hI
        clear hr hI HY
        have ROUND : ∀ w9, Hid (∃ Z, RowS w9 B g n cap (P ++ Z ++ X.drop (t + 1) ++ S) ∧ Z.Perm (X.take (t + 1)) ∧ SortS L Z) → Only g (g + 1) w w9 → ∃ i' t' : Nat, 1 ≤ t' ∧ (t' ≤ m ∨ t' = 1) ∧ i' = a + t' ∧ Value.int .i64 ((i : Int) + 1) = Value.int .i64 (i' : Int) ∧ Hid (∃ Z, RowS w9 B g n cap (P ++ Z ++ X.drop t' ++ S) ∧ Z.Perm (X.take t') ∧ SortS L Z) ∧ Only g (g + 1) w w9 := fun w9 h1 h2 =>
          ⟨i + 1, t + 1, by omega, .inl (by omega), by have := HIT.out; omega, by go_num, h1, h2⟩
        have HROUND := Lib.hid ROUND
        clear ROUND
        by_cases hja : j = a
        · have HD := Lib.hid (HDONE.out wo ys HR.out (HL.out.stop O HX.out HI.out (.inl (by rw [hja, HP.out]))))
          have g0 : decide ((j : Int) > (a : Int)) = false := decide_eq_false (by omega)
          have g1 : ¬ (a : Int) < (j : Int) := by omega
          have g2 : decide (a < j) = false := decide_eq_false (by omega)
          clear hja
          go_wp2
          refine wp_region_held_drew (S := fun w' => True) (by kernel_rfl) (by (try dsimp only); (try trivial)) (fun hHeld => ?_)
          refine wpAnyH_take (i := 0) (v := ?v25) rfl (by kernel_rfl) (by kernel_rfl) (by kernel_rfl) (fun _ _ _ h => h) (Or.inl ⟨by rfl, ?hy25⟩) (by assumption) ?rest25
          case hy25 => (intro w hSw; (try dsimp only at hSw); go_simp; (try with_reducible rfl))
          simp only [Act.put, List.getElem_toArray, List.getElem_cons_zero, List.setIfInBounds_toArray, List.set_cons_zero, List.set_cons_succ]
          refine wpAnyH_take (i := 1) (v := ?v26) rfl (by kernel_rfl) (by kernel_rfl) (by kernel_rfl) (fun _ _ _ h => h) (Or.inl ⟨by rfl, ?hy26⟩) (by assumption) ?rest26
          case hy26 => (intro w hSw; (try dsimp only at hSw); go_simp; (try with_reducible rfl))
          simp only [Act.put, List.getElem_toArray, List.getElem_cons_zero, List.getElem_cons_succ, List.setIfInBounds_toArray, List.set_cons_zero, List.set_cons_succ]
          refine wpAnyH_take (i := 2) (v := ?v27) rfl (by kernel_rfl) (by kernel_rfl) (by kernel_rfl) (fun _ _ _ h => h) (Or.inl ⟨by rfl, ?hy27⟩) (by assumption) ?rest27
          case hy27 => (intro w hSw; (try dsimp only at hSw); go_simp; (try with_reducible rfl))
          simp only [Act.put, List.getElem_toArray, List.getElem_cons_zero, List.getElem_cons_succ, List.setIfInBounds_toArray, List.set_cons_zero, List.set_cons_succ]
          refine wpAnyH_take (i := 3) (v := ?v28) rfl (by kernel_rfl) (by kernel_rfl) (by kernel_rfl) (fun _ _ _ h => h) (Or.inl ⟨by rfl, ?hy28⟩) (by assumption) ?rest28
          case hy28 => (intro w hSw; (try dsimp only at hSw); go_simp; (try with_reducible rfl))
          simp only [Act.put, List.getElem_toArray, List.getElem_cons_zero, List.getElem_cons_succ, List.setIfInBounds_toArray, List.set_cons_zero, List.set_cons_succ]
          refine wpAnyH_take (i := 4) (v := undef) rfl (by kernel_rfl) (by kernel_rfl) (by kernel_rfl) (fun _ _ _ h => h) (Or.inr ⟨by rfl, rfl⟩) (by assumption) ?_
          simp only [Act.put, List.getElem_toArray, List.getElem_cons_zero, List.getElem_cons_succ, List.setIfInBounds_toArray, List.set_cons_zero, List.set_cons_succ]
          refine wpAnyH_take (i := 5) (v := undef) rfl (by kernel_rfl) (by kernel_rfl) (by kernel_rfl) (fun _ _ _ h => h) (Or.inr ⟨by rfl, rfl⟩) (by assumption) ?_
          simp only [Act.put, List.getElem_toArray, List.getElem_cons_zero, List.getElem_cons_succ, List.setIfInBounds_toArray, List.set_cons_zero, List.set_cons_succ]
          refine wpAnyH_take (i := 6) (v := undef) rfl (by kernel_rfl) (by kernel_rfl) (by kernel_rfl) (fun _ _ _ h => h) (Or.inr ⟨by rfl, rfl⟩) (by assumption) ?_
          simp only [Act.put, List.getElem_toArray, List.getElem_cons_zero, List.getElem_cons_succ, List.setIfInBounds_toArray, List.set_cons_zero, List.set_cons_succ]
          refine wpAnyH_take (i := 7) (v := undef) rfl (by kernel_rfl) (by kernel_rfl) (by kernel_rfl) (fun _ _ _ h => h) (Or.inr ⟨by rfl, rfl⟩) (by assumption) ?_
          simp only [Act.put, List.getElem_toArray, List.getElem_cons_zero, List.getElem_cons_succ, List.setIfInBounds_toArray, List.set_cons_zero, List.set_cons_succ]
          refine wpAnyH_take (i := 8) (v := undef) rfl (by kernel_rfl) (by kernel_rfl) (by kernel_rfl) (fun _ _ _ h => h) (Or.inr ⟨by rfl, rfl⟩) (by assumption) ?_
          simp only [Act.put, List.getElem_toArray, List.getElem_cons_zero, List.getElem_cons_succ, List.setIfInBounds_toArray, List.set_cons_zero, List.set_cons_succ]
          refine wpAnyH_take (i := 9) (v := undef) rfl (by kernel_rfl) (by kernel_rfl) (by kernel_rfl) (fun _ _ _ h => h) (Or.inr ⟨by rfl, rfl⟩) (by assumption) ?_
          simp only [Act.put, List.getElem_toArray, List.getElem_cons_zero, List.getElem_cons_succ, List.setIfInBounds_toArray, List.set_cons_zero, List.set_cons_succ]
          refine wpAnyH_take (i := 10) (v := undef) rfl (by kernel_rfl) (by kernel_rfl) (by kernel_rfl) (fun _ _ _ h => h) (Or.inr ⟨by rfl, rfl⟩) (by assumption) ?_
          simp only [Act.put, List.getElem_toArray, List.getElem_cons_zero, List.getElem_cons_succ, List.setIfInBounds_toArray, List.set_cons_zero, List.set_cons_succ]
          refine wpAnyH_take (i := 11) (v := undef) rfl (by kernel_rfl) (by kernel_rfl) (by kernel_rfl) (fun _ _ _ h => h) (Or.inr ⟨by rfl, rfl⟩) (by assumption) ?_
          simp only [Act.put, List.getElem_toArray, List.getElem_cons_zero, List.getElem_cons_succ, List.setIfInBounds_toArray, List.set_cons_zero, List.set_cons_succ]
          refine wpAnyH_take (i := 12) (v := undef) rfl (by kernel_rfl) (by kernel_rfl) (by kernel_rfl) (fun _ _ _ h => h) (Or.inr ⟨by rfl, rfl⟩) (by assumption) ?_
          simp only [Act.put, List.getElem_toArray, List.getElem_cons_zero, List.getElem_cons_succ, List.setIfInBounds_toArray, List.set_cons_zero, List.set_cons_succ]
          refine wpAnyH_take (i := 13) (v := undef) rfl (by kernel_rfl) (by kernel_rfl) (by kernel_rfl) (fun _ _ _ h => h) (Or.inr ⟨by rfl, rfl⟩) (by assumption) ?_
          simp only [Act.put, List.getElem_toArray, List.getElem_cons_zero, List.getElem_cons_succ, List.setIfInBounds_toArray, List.set_cons_zero, List.set_cons_succ]
          refine wpAnyH_take (i := 14) (v := undef) rfl (by kernel_rfl) (by kernel_rfl) (by kernel_rfl) (fun _ _ _ h => h) (Or.inr ⟨by rfl, rfl⟩) (by assumption) ?_
          simp only [Act.put, List.getElem_toArray, List.getElem_cons_zero, List.getElem_cons_succ, List.setIfInBounds_toArray, List.set_cons_zero, List.set_cons_succ]
          refine wpAnyH_take (i := 15) (v := undef) rfl (by kernel_rfl) (by kernel_rfl) (by kernel_rfl) (fun _ _ _ h => h) (Or.inr ⟨by rfl, rfl⟩) (by assumption) ?_
          simp only [Act.put, List.getElem_toArray, List.getElem_cons_zero, List.getElem_cons_succ, List.setIfInBounds_toArray, List.set_cons_zero, List.set_cons_succ]
          refine wpAnyH_take (i := 16) (v := ?v29) rfl (by kernel_rfl) (by kernel_rfl) (by kernel_rfl) (fun _ _ _ h => h) (Or.inl ⟨by rfl, ?hy29⟩) (by assumption) ?rest29
          case hy29 => (intro w hSw; (try dsimp only at hSw); go_simp; (try with_reducible rfl))
          simp only [Act.put, List.getElem_toArray, List.getElem_cons_zero, List.getElem_cons_succ, List.setIfInBounds_toArray, List.set_cons_zero, List.set_cons_succ]
          refine wpAnyH_done (by kernel_rfl) ?_ _
          go_wp2
          go_roundw
          case rel => exact HROUND.out _ HD (hO.drewN 1)
          case measure => simp [intOf]; omega
        · obtain ⟨hm1, hm2, hlt2, hstep⟩ := HL.out.at HX.out HI.out (by rw [HP.out]; omega)
          obtain ⟨jp, hjp⟩ : ∃ jp, jp + 1 = j := ⟨j - 1, by omega⟩
          have ejp : j - 1 = jp := by omega
          have hstop := HL.out.stop O HX.out HI.out
          rw [ejp] at hm2 hlt2 hstep hstop
          have hw2 : IntKind.i64.wrap ((j : Int) - 1) = (jp : Int) := by rw [IntKind.wrap_i64]; omega
          have c1 := HR.out.cell j (by omega)
          have c2 := HR.out.cell jp (by omega)
          obtain ⟨x, hx⟩ : ∃ x, ys.getD j 0 = x := ⟨_, rfl⟩
          obtain ⟨z, hz⟩ : ∃ z, ys.getD jp 0 = z := ⟨_, rfl⟩
          rw [hx] at hm1 hlt2 hstep hstop c1
          rw [hz] at hm2 hlt2 hstep hstop c2
          have hag := O.agree z hm2 x hm1 hlt2
          have hcall := fun W h => HC.out W x z h hm1 hm2
          obtain ⟨cv, hcv⟩ : ∃ cv, cf x z = cv := ⟨_, rfl⟩
          rw [hcv] at hag hcall
          have HCALL := Lib.hid hcall
          have g0 : decide ((j : Int) > (a : Int)) = true := decide_eq_true (by omega)
          have g1 : (a : Int) < (j : Int) := by omega
          have j0 : (0 : Int) ≤ (j : Int) := by omega
          have j1 : (j : Int) < (n : Int) := by omega
          have jp0 : (0 : Int) ≤ (jp : Int) := by omega
          have jp1 : (jp : Int) < (n : Int) := by omega
          have hne : ¬ j = jp := by omega
          have hjp2 : a ≤ jp ∧ jp ≤ i ∧ jp < j := by omega
          have HX0 := Lib.hid hx
          have HZ0 := Lib.hid hz
          clear hcall hcv hja hm1 hm2 hlt2 hx hz ejp hjp
          cases hL : L x z with
          | true =>
            rw [hL] at hag
            have hneg : cv < 0 := of_decide_eq_true hag
            have HST := Lib.hid (hstep hL)
            clear hstep hstop hL
            go_wp2
            go_region_held3 (fun w' => w'.cell? ⟨g, j, none⟩ = some (.int .i64 x) ∧ w'.cell? ⟨g, jp, none⟩ = some (.int .i64 z)) (go_keep)
              (first | (go_at_call 68; (refine (HCALL.out _ (by first | exact hO.trans ?_ | exact Only.drewN (hW.trans hO) _ | exact hW.trans hO)).mono ?_); rintro e w5 ⟨rfl, hb5⟩; have d1 := cellB hb5 c1; have d2 := cellB hb5 c2; (have hB5 : Below wo.heap.size wo w5 := by first | exact hb5 | exact (bdn (Below.refl _ _) _).trans hb5)))
            have HR5 := Lib.hid (HR.out.later hB5)
            have hO5 := hO.moreS hB5
            have f1 := HR5.out.frozen j
            have f2 := HR5.out.frozen jp
            have HSW := Lib.hid (HR5.out.swap j jp HX0.out HZ0.out)
            have c3 : (w5.setCell ⟨g, j, none⟩ (.int .i64 z)).cell? ⟨g, jp, none⟩ = some (.int .i64 z) := (World.cell?_setCell_other _ _ _ _ (by intro e'; simp only [Addr.mk.injEq] at e'; omega)).trans d2
            have mixed : Try.prog.follows Departure.mixedOrders = true := by kernel_rfl
            go_wp2
            go_big_region_o
            go_wp2
            go_roundw
            case rel => exact ⟨jp, by omega, by omega, by go_num, Lib.hid ⟨_, HSW.out.1, HST.out⟩, hO5.trans HSW.out.2⟩
            case measure => simp [intOf]; omega
          | false =>
            rw [hL] at hag
            have hpos : ¬ cv < 0 := of_decide_eq_false hag
            have HD := Lib.hid (fun w9 h9 => HDONE.out w9 ys h9 (hstop (.inr ⟨by rw [HP.out]; omega, hL⟩)))
            clear hstep hstop hL
            go_wp2
            go_region_held3 (fun w' => w'.cell? ⟨g, j, none⟩ = some (.int .i64 x) ∧ w'.cell? ⟨g, jp, none⟩ = some (.int .i64 z)) (go_keep)
              (first | (go_at_call 68; (refine (HCALL.out _ (by first | exact hO.trans ?_ | exact Only.drewN (hW.trans hO) _ | exact hW.trans hO)).mono ?_); rintro e w5 ⟨rfl, hb5⟩; have d1 := cellB hb5 c1; have d2 := cellB hb5 c2; (have hB5 : Below wo.heap.size wo w5 := by first | exact hb5 | exact (bdn (Below.refl _ _) _).trans hb5)))
            have HR5 := Lib.hid (HR.out.later hB5)
            have hO5 := hO.moreS hB5
            go_wp2
            go_roundw
            case rel => exact HROUND.out _ (Lib.hid (HD.out _ HR5.out)) hO5
            case measure => simp [intOf]; omega
    · have HEND := Lib.hid (show ∃ Z, RowS wr B g n cap (P ++ Z ++ S) ∧ Z.Perm X ∧ SortS L Z from by
        obtain ⟨Z, h1, h2, h3⟩ := HZ.out
        have hml := HM.out
        by_cases h0 : m = 0
        · have := List.eq_nil_of_length_eq_zero (hml.trans h0)
          subst this
          exact ⟨Z, by simpa using h1, by simpa using h2, h3⟩
        · have : t = m := by omega
          rw [List.drop_of_length_le (by omega), List.append_nil] at h1
          rw [List.take_of_length_le (by omega)] at h2
          exact ⟨Z, h1, h2, h3⟩)
      clear HZ
      go_wp2
      go_end0
      exact ⟨rfl, HEND.out, hO⟩

end Go.Proofs.Ytnldnjgnpdicnaa
