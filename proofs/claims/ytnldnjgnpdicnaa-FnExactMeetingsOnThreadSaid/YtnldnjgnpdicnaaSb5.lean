/- slices.symMergeCmpFunc at ints. -/
import Derived.Test.YtnldnjgnpdicnaaSb4
namespace Go.Proofs.Ytnldnjgnpdicnaa
open Go.RowKit
set_option linter.unusedVariables false

/-- The parts of a merge behind the search. -/
structure HalfS (L : Int → Int → Bool) (X Y : List Int) (a b mid st en : Nat) (X1 X2 Y1 Y2 : List Int) : Prop where
  hx : X = X1 ++ X2
  hy : Y = Y1 ++ Y2
  l1 : a + X1.length = st
  l2 : st + Y1.length = mid
  l3 : mid + X2.length = en
  l4 : en + Y2.length = b
  c1 : ∀ x ∈ X1, ∀ y ∈ Y2, L x y = true
  c2 : ∀ y ∈ Y1, ∀ x ∈ X2, L y x = true

theorem HalfS.first {M : List Int} {L : Int → Int → Bool} {P X Y S X1 X2 Y1 Y2 : List Int} {a m b n mid st en : Nat} (H : HalfS L X Y a b mid st en X1 X2 Y1 Y2) (h : MergeS M L P X Y S a m b n) : MergeS M L P X1 Y1 (X2 ++ Y2 ++ S) a st mid n := by
  obtain ⟨rfl, rfl, l1, l2, l3, l4, c1, c2⟩ := H
  refine ⟨h.hP, l1, l2, ?_, fun z hz => h.mem z ?_, (List.pairwise_append.1 h.sx).1, (List.pairwise_append.1 h.sy).1, fun x hx y hy => h.lt x (List.mem_append_left _ hx) y (List.mem_append_left _ hy)⟩
  · have := h.hn
    simp only [List.length_append] at this ⊢
    omega
  · rcases List.mem_append.1 hz with e | e
    · exact List.mem_append_left _ (List.mem_append_left _ e)
    · exact List.mem_append_right _ (List.mem_append_left _ e)

theorem HalfS.second {M : List Int} {L : Int → Int → Bool} {P X Y S X1 X2 Y1 Y2 Z1 : List Int} {a m b n mid st en : Nat} (H : HalfS L X Y a b mid st en X1 X2 Y1 Y2) (h : MergeS M L P X Y S a m b n) (hz : Z1.Perm (X1 ++ Y1)) : MergeS M L (P ++ Z1) X2 Y2 S mid en b n := by
  obtain ⟨rfl, rfl, l1, l2, l3, l4, c1, c2⟩ := H
  have hl := hz.length_eq
  have hp := h.hP
  simp only [List.length_append] at hl
  refine ⟨by rw [List.length_append]; omega, l3, l4, ?_, fun z hz => h.mem z ?_, (List.pairwise_append.1 h.sx).2.1, (List.pairwise_append.1 h.sy).2.1, fun x hx y hy => h.lt x (List.mem_append_right _ hx) y (List.mem_append_right _ hy)⟩
  · have := h.hn
    simp only [List.length_append] at this ⊢
    omega
  · rcases List.mem_append.1 hz with e | e
    · exact List.mem_append_left _ (List.mem_append_right _ e)
    · exact List.mem_append_right _ (List.mem_append_right _ e)

theorem HalfS.whole {M : List Int} {L : Int → Int → Bool} {P X Y S X1 X2 Y1 Y2 Z1 Z2 : List Int} {a m b n mid st en : Nat} (H : HalfS L X Y a b mid st en X1 X2 Y1 Y2) (h : MergeS M L P X Y S a m b n) (h1 : Z1.Perm (X1 ++ Y1)) (h2 : Z2.Perm (X2 ++ Y2)) (s1 : SortS L Z1) (s2 : SortS L Z2) :
    (Z1 ++ Z2).Perm (X ++ Y) ∧ SortS L (Z1 ++ Z2) := by
  obtain ⟨rfl, rfl, l1, l2, l3, l4, c1, c2⟩ := H
  constructor
  · refine (h1.append h2).trans ?_
    rw [List.append_assoc, List.append_assoc]
    refine List.Perm.append_left X1 ?_
    rw [← List.append_assoc, ← List.append_assoc]
    exact List.Perm.append_right Y2 List.perm_append_comm
  · refine sort_join s1 s2 fun x hx y hy => ?_
    have hx' := h1.subset hx
    have hy' := h2.subset hy
    rcases List.mem_append.1 hx' with e | e <;> rcases List.mem_append.1 hy' with e' | e'
    · exact (List.pairwise_append.1 h.sx).2.2 x e y e'
    · exact c1 x e y e'
    · exact c2 x e y e'
    · exact (List.pairwise_append.1 h.sy).2.2 x e y e'

theorem HalfS.left {L : Int → Int → Bool} {M P X Y S X1 X2 Y1 Y2 : List Int} {a m b n mid st en : Nat} (H : HalfS L X Y a b mid st en X1 X2 Y1 Y2) (h : MergeS M L P X Y S a m b n) (he : st = a ∨ st = mid) : SortS L (X1 ++ Y1) := by
  obtain ⟨rfl, rfl, l1, l2, l3, l4, c1, c2⟩ := H
  rcases he with e | e
  · have : X1 = [] := List.eq_nil_of_length_eq_zero (by omega)
    subst this
    exact (List.pairwise_append.1 h.sy).1
  · have : Y1 = [] := List.eq_nil_of_length_eq_zero (by omega)
    subst this
    rw [List.append_nil]
    exact (List.pairwise_append.1 h.sx).1
theorem HalfS.right {L : Int → Int → Bool} {M P X Y S X1 X2 Y1 Y2 : List Int} {a m b n mid st en : Nat} (H : HalfS L X Y a b mid st en X1 X2 Y1 Y2) (h : MergeS M L P X Y S a m b n) (he : mid = en ∨ en = b) : SortS L (X2 ++ Y2) := by
  obtain ⟨rfl, rfl, l1, l2, l3, l4, c1, c2⟩ := H
  rcases he with e | e
  · have : X2 = [] := List.eq_nil_of_length_eq_zero (by omega)
    subst this
    exact (List.pairwise_append.1 h.sy).2.1
  · have : Y2 = [] := List.eq_nil_of_length_eq_zero (by omega)
    subst this
    rw [List.append_nil]
    exact (List.pairwise_append.1 h.sx).2.1

/-- What a merge of at most so many elements does. -/
def SymC (B g n cap : Nat) (M : List Int) (L : Int → Int → Bool) (p q : Addr) (W0 : World) (sz : Nat) : Prop :=
  ∀ (a m b : Nat) (P X Y S : List Int) (w : World), b ≤ a + sz → Only g (g + 1) W0 w → RowS w B g n cap (P ++ X ++ Y ++ S) → MergeS M L P X Y S a m b n → a < m → m < b →
    Calls Try.prog 146 #[(.slice (some ⟨g, 0, none⟩) n cap), .int .i64 (a : Int), .int .i64 (m : Int), .int .i64 (b : Int), (.func (.func 68) #[] #[.pointer (some p), .pointer (some q)])] w fun e w' => e = .returned (.tuple #[]) ∧ (∃ Z, RowS w' B g n cap (P ++ Z ++ S) ∧ Z.Perm (X ++ Y) ∧ SortS L Z) ∧ Only g (g + 1) w w'

set_option maxHeartbeats 8000000 in
set_option maxRecDepth 100000 in
theorem symMerge_one {M : List Int} {L : Int → Int → Bool} {cf : Int → Int → Int} (O : OrdS M L cf) (B g n cap a m b : Nat) (P Y S : List Int) (x : Int) (p q : Addr) (W0 w : World) (hC : CmpC g W0 M cf p q) (hn : n ≤ 1000) (hW : Only g (g + 1) W0 w)
    (h : RowS w B g n cap (P ++ [x] ++ Y ++ S)) (hM : MergeS M L P [x] Y S a m b n) (hmb : m < b) :
    Calls Try.prog 146 #[(.slice (some ⟨g, 0, none⟩) n cap), .int .i64 (a : Int), .int .i64 (m : Int), .int .i64 (b : Int), (.func (.func 68) #[] #[.pointer (some p), .pointer (some q)])] w fun e w' => e = .returned (.tuple #[]) ∧ (∃ Z, RowS w' B g n cap (P ++ Z ++ S) ∧ Z.Perm ([x] ++ Y) ∧ SortS L Z) ∧ Only g (g + 1) w w' := by
  have e2 := hM.hX
  have e3 := hM.hY
  have e4 := hM.bn
  have HP := Lib.hid hM.hP
  simp only [List.length_singleton] at e2
  obtain ⟨e0, hf, hmo, hfin⟩ := hM.oneL O
  rw [e0] at h hf
  generalize (fun k => L (Y.getD (k - m) 0) x) = c0 at hf hmo hfin
  have H := Lib.hid h
  have HF := Lib.hid hf
  have HMO := Lib.hid hmo
  have HFIN := Lib.hid hfin
  have HC := Lib.hid hC
  obtain ⟨ly, hly⟩ : ∃ l, Y.length = l := ⟨_, rfl⟩
  rw [hly] at e3
  have HLY := Lib.hid hly
  have hw1 : IntKind.i64.wrap ((m : Int) - (a : Int)) = 1 := by rw [IntKind.wrap_i64]; omega
  clear h hf hmo hfin hC hM e0 hly
  go_enter Try.func146, Try.ntmps146
  go_wp2
  go_loopw [10, 11] (fun vi vj wr => ∃ i j : Nat, m ≤ i ∧ i ≤ j ∧ j ≤ b ∧ vi = .int .i64 (i : Int) ∧ vj = .int .i64 (j : Int) ∧ Hid (BS c0 m b i j) ∧ Hid (RowS wr B g n cap (ShA P Y S x 0)) ∧ Only g (g + 1) w wr) (fun vi vj _ => (intOf vj).toNat - (intOf vi).toNat)
  case atStart => exact ⟨m, b, Nat.le_refl _, by omega, Nat.le_refl _, rfl, rfl, Lib.hid (BS.start _ _ _), H, Only.refl _ _ _⟩
  case round =>
    obtain ⟨i, j, hi1, hi2, hi3, rfl, rfl, HB, HR, hO⟩ := hrel
    obtain ⟨wo, rfl⟩ : ∃ q, q = wr := ⟨wr, rfl⟩
    by_cases hlt : i < j
    · obtain ⟨h, hh⟩ : ∃ h, h = (i + j) / 2 := ⟨_, rfl⟩
      have hmi : ((i : Int) + (j : Int)) / 2 = (h : Int) := by omega
      have hh1 : i ≤ h := by omega
      have hh2 : h < j := by omega
      obtain ⟨l1, l2, u, v, hu, hv, mu, mv, huv, hc⟩ := HF.out h (by omega) (by omega)

      have l1 : h < n := l1
      have l2 : a < n := l2
      have hu : (ShA P Y S x 0).getD h 0 = u := hu
      have hv : (ShA P Y S x 0).getD a 0 = v := hv
      have k1 := HR.out.cell h l1
      have k2 := HR.out.cell a l2
      rw [hu] at k1
      rw [hv] at k2
      have hag := O.agree v mv u mu huv
      have hcall := fun W h => HC.out W u v h mu mv
      obtain ⟨cv, hcv⟩ : ∃ cv, cf u v = cv := ⟨_, rfl⟩
      rw [hcv] at hag hcall
      have HCALL := Lib.hid hcall
      have x0 : (0 : Int) ≤ ((h : Nat) : Int) := by omega
      have x1 : ((h : Nat) : Int) < (n : Int) := by omega
      have y0 : (0 : Int) ≤ ((a : Nat) : Int) := by omega
      have y1 : ((a : Nat) : Int) < (n : Int) := by omega
      clear hcall hcv mu mv huv hu hv hh
      cases hL : L u v with
      | true =>
        rw [hL] at hag hc
        have hneg : cv < 0 := of_decide_eq_true hag
        have HN := Lib.hid (HB.out.yes HMO.out (by omega) hc)
        clear hc hL
        go_wp2
        go_region_held3 (fun w' => w'.cell? ⟨g, h, none⟩ = some (.int .i64 u) ∧ w'.cell? ⟨g, a, none⟩ = some (.int .i64 v)) (go_keep)
          (first | (go_at_call 68; (refine (HCALL.out _ (by first | exact Only.drewN (hW.trans hO) _ | exact hW.trans hO)).mono ?_); rintro e w5 ⟨rfl, hb5⟩; have d1 := cellB hb5 k1; have d2 := cellB hb5 k2; (have hB5 : Below wo.heap.size wo w5 := by first | exact hb5 | exact (bdn (Below.refl _ _) _).trans hb5)))
        have HR5 := Lib.hid (HR.out.later hB5)
        have hO5 := hO.moreS hB5
        go_wp2
        go_roundw
        case rel => exact ⟨h + 1, j, by omega, by omega, by omega, by go_num, rfl, HN, HR5, hO5⟩
        case measure => simp [intOf]; omega
      | false =>
        rw [hL] at hag hc
        have hneg : ¬ cv < 0 := of_decide_eq_false hag
        have HN := Lib.hid (HB.out.no HMO.out (by omega) hc)
        clear hc hL
        go_wp2
        go_region_held3 (fun w' => w'.cell? ⟨g, h, none⟩ = some (.int .i64 u) ∧ w'.cell? ⟨g, a, none⟩ = some (.int .i64 v)) (go_keep)
          (first | (go_at_call 68; (refine (HCALL.out _ (by first | exact Only.drewN (hW.trans hO) _ | exact hW.trans hO)).mono ?_); rintro e w5 ⟨rfl, hb5⟩; have d1 := cellB hb5 k1; have d2 := cellB hb5 k2; (have hB5 : Below wo.heap.size wo w5 := by first | exact hb5 | exact (bdn (Below.refl _ _) _).trans hb5)))
        have HR5 := Lib.hid (HR.out.later hB5)
        have hO5 := hO.moreS hB5
        go_wp2
        go_roundw
        case rel => exact ⟨i, h, by omega, by omega, by omega, rfl, rfl, HN, HR5, hO5⟩
        case measure => simp [intOf]; omega
    · obtain rfl : i = j := by omega
      have HZ := Lib.hid (HFIN.out i hi1 hi3 HB.out)
      obtain ⟨i1, hi4⟩ : ∃ i1, i1 + 1 = i := ⟨i - 1, by omega⟩
      have hw2 : IntKind.i64.wrap ((i : Int) - 1) = (i1 : Int) := by rw [IntKind.wrap_i64]; omega
      obtain ⟨ti, hti⟩ : ∃ t, i - m = t := ⟨_, rfl⟩
      rw [hti] at HZ
      have f1 : a + ti = i1 := by omega
      have f2 : ti ≤ ly := by omega
      clear hti HFIN HF HMO HB
      go_wp2
      go_loopw [13] (fun y wr => ∃ t k : Nat, k = a + t ∧ t ≤ ti ∧ y = .int .i64 (k : Int) ∧ Hid (RowS wr B g n cap (ShA P Y S x t)) ∧ Only g (g + 1) w wr) (fun y _ => i - (intOf y).toNat)
      case atStart => exact ⟨0, a, by omega, by omega, rfl, HR, hO⟩
      case round =>
        clear HR hO
        obtain ⟨t, k, hkt, htt, rfl, HR, hO⟩ := hrel
        by_cases hlt2 : t < ti
        · obtain ⟨kp, hkp⟩ : ∃ kp, kp = k + 1 := ⟨_, rfl⟩
          have HUP := Lib.hid (ShA_up P Y S x t k (by rw [HLY.out]; omega) (by rw [HP.out]; exact hkt))
          rw [← hkp] at HUP
          obtain ⟨u, hu⟩ : ∃ u, (ShA P Y S x t).getD k 0 = u := ⟨_, rfl⟩
          obtain ⟨v, hv⟩ : ∃ v, (ShA P Y S x t).getD kp 0 = v := ⟨_, rfl⟩
          have k1 := HR.out.cell k (by omega)
          have k2 := HR.out.cell kp (by omega)
          rw [hu] at k1
          rw [hv] at k2
          have g1 := HR.out.frozen k
          have g2 := HR.out.frozen kp
          have HSW := Lib.hid (HR.out.swap k kp hu hv)
          have hw3 : IntKind.i64.wrap ((k : Int) + 1) = (kp : Int) := by rw [IntKind.wrap_i64]; omega
          have x0 : (0 : Int) ≤ (k : Int) := by omega
          have x1 : (k : Int) < (n : Int) := by omega
          have y0 : (0 : Int) ≤ (kp : Int) := by omega
          have y1 : (kp : Int) < (n : Int) := by omega
          have hgo : (k : Int) < (i1 : Int) := by omega
          have hki : k < i ∧ kp = k + 1 := by omega
          have HKI := Lib.hid hki
          clear hki
          have HKK := Lib.hid (show kp = a + (t + 1) by omega)
          have k3 : (wr.setCell ⟨g, k, none⟩ (.int .i64 v)).cell? ⟨g, kp, none⟩ = some (.int .i64 v) := (World.cell?_setCell_other _ _ _ _ (by intro e'; simp only [Addr.mk.injEq] at e'; omega)).trans k2
          have mixed : Try.prog.follows Departure.mixedOrders = true := by kernel_rfl
          clear hu hv hkt hkp
          go_wp2
          go_big_region_o
          go_wp2
          go_roundw
          case rel => exact ⟨t + 1, kp, HKK.out, by omega, by go_num, Lib.hid (by rw [← HUP.out]; exact HSW.out.1), hO.trans HSW.out.2⟩
          case measure => have := HKI.out; simp [intOf]; omega
        · obtain rfl : t = ti := by omega
          have hgo : ¬ (k : Int) < (i1 : Int) := by omega
          obtain ⟨Z, z1, z2, z3⟩ := HZ.out
          have hrz := HR.out
          rw [z1] at hrz
          have HRZ := Lib.hid hrz
          have HZ2 := Lib.hid z2
          have HZ3 := Lib.hid z3
          clear hrz z1 z2 z3 HZ HR
          go_wp2
          (try simp only [Exit.inBlock, Exit.then]); refine bodyPost_ret (results_none rfl _ _ _) rfl ?_
          exact ⟨rfl, ⟨Z, by simpa only [List.append_assoc] using HRZ.out, HZ2.out, HZ3.out⟩, hO⟩

end Go.Proofs.Ytnldnjgnpdicnaa
