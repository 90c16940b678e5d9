/- Lists of integers held against each other: slices.Compare, and lists of them in order. -/
import Derived.Test.YtnldnjgnpdicnaaC1
import Derived.Test.YtnldnjgnpdicnaaBA
namespace Go.Proofs.Ytnldnjgnpdicnaa
open Go.RowKit
set_option linter.unusedVariables false

/-- The order of two lists. -/
def cmpL : List Int → List Int → Int
  | [], [] => 0
  | [], _ :: _ => -1
  | _ :: _, [] => 1
  | x :: a, y :: b => if x < y then -1 else if y < x then 1 else cmpL a b

/-- Does a list come before another one? -/
def lessL (a b : List Int) : Bool := decide (cmpL a b < 0)

theorem cmpL_cases (a b : List Int) : cmpL a b = -1 ∨ cmpL a b = 0 ∨ cmpL a b = 1 := by
  induction a generalizing b with
  | nil => cases b <;> simp [cmpL]
  | cons x a ih =>
    cases b with
    | nil => simp [cmpL]
    | cons y b =>
      rw [cmpL]
      split
      · exact .inl rfl
      · split
        · exact .inr (.inr rfl)
        · exact ih b

theorem cmpL_zero {a b : List Int} (h : cmpL a b = 0) : a = b := by
  induction a generalizing b with
  | nil => cases b with
    | nil => rfl
    | cons y b => simp [cmpL] at h
  | cons x a ih =>
    cases b with
    | nil => simp [cmpL] at h
    | cons y b =>
      rw [cmpL] at h
      split at h
      · simp at h
      · split at h
        · simp at h
        · rw [ih h, show x = y by omega]

theorem cmpL_refl (a : List Int) : cmpL a a = 0 := by
  induction a with
  | nil => rfl
  | cons x a ih => rw [cmpL, if_neg (by omega), if_neg (by omega), ih]

theorem cmpL_swap (a b : List Int) : cmpL b a = - cmpL a b := by
  induction a generalizing b with
  | nil => cases b <;> simp [cmpL]
  | cons x a ih =>
    cases b with
    | nil => simp [cmpL]
    | cons y b =>
      rw [cmpL, cmpL]
      by_cases h1 : x < y
      · rw [if_neg (by omega), if_pos h1, if_pos h1]; rfl
      · by_cases h2 : y < x
        · rw [if_pos h2, if_neg h1, if_pos h2]
        · rw [if_neg h2, if_neg h1, if_neg h1, if_neg h2, ih]

theorem cmpL_trans {a b c : List Int} (h1 : cmpL a b ≤ 0) (h2 : cmpL b c ≤ 0) : cmpL a c ≤ 0 ∧ (cmpL a b < 0 ∨ cmpL b c < 0 → cmpL a c < 0) := by
  induction a generalizing b c with
  | nil =>
    cases b with
    | nil => exact ⟨h2, fun h => h.elim (fun h => absurd h (by simp [cmpL])) id⟩
    | cons y b =>
      cases c with
      | nil => simp [cmpL] at h2
      | cons z c => simp [cmpL]
  | cons x a ih =>
    cases b with
    | nil => simp [cmpL] at h1
    | cons y b =>
      cases c with
      | nil => simp [cmpL] at h2
      | cons z c =>
        have e1 : cmpL (x :: a) (y :: b) = if x < y then -1 else if y < x then 1 else cmpL a b := by rw [cmpL]
        have e2 : cmpL (y :: b) (z :: c) = if y < z then -1 else if z < y then 1 else cmpL b c := by rw [cmpL]
        have e3 : cmpL (x :: a) (z :: c) = if x < z then -1 else if z < x then 1 else cmpL a c := by rw [cmpL]
        rw [e1] at h1 ⊢
        rw [e2] at h2 ⊢
        rw [e3]
        clear e1 e2 e3
        by_cases hxy : x < y
        · by_cases hyz : y < z
          · rw [if_pos (show x < z by omega)]; simp
          · by_cases hzy : z < y
            · rw [if_neg hyz, if_pos hzy] at h2; simp at h2
            · rw [if_pos (show x < z by omega)]; simp
        · by_cases hyx : y < x
          · rw [if_neg hxy, if_pos hyx] at h1; simp at h1
          · obtain rfl : x = y := by omega
            rw [if_neg hxy, if_neg hyx] at h1 ⊢
            by_cases hyz : x < z
            · rw [if_pos hyz]; simp
            · by_cases hzy : z < x
              · rw [if_neg hyz, if_pos hzy] at h2; simp at h2
              · simp only [if_neg hyz, if_neg hzy] at h2 ⊢
                exact ih h1 h2

theorem lessL_irrefl (a : List Int) : lessL a a = false := by simp [lessL, cmpL_refl]
theorem lessL_no (a b : List Int) : lessL a b = false ↔ cmpL b a ≤ 0 := by
  unfold lessL
  rw [decide_eq_false_iff_not, cmpL_swap a b]
  omega

/-- Lists in order. -/
def SortedL (L : List (List Int)) : Prop := L.Pairwise fun a b => lessL b a = false

theorem SortedL.unique : ∀ {L M : List (List Int)}, L.Perm M → SortedL L → SortedL M → L = M := by
  intro L
  induction L with
  | nil => intro M h _ _; exact h.nil_eq
  | cons a t ih =>
    intro M h hL hM
    cases M with
    | nil => exact absurd h.length_eq (by simp)
    | cons b s =>
      have hab : a = b := by
        have h1 : a ∈ b :: s := h.mem_iff.1 (by simp)
        have h2 : b ∈ a :: t := h.mem_iff.2 (by simp)
        rcases List.mem_cons.1 h1 with e | h1
        · exact e
        · rcases List.mem_cons.1 h2 with e | h2
          · exact e.symm
          · have g1 := (List.pairwise_cons.1 hM).1 a h1
            have g2 := (List.pairwise_cons.1 hL).1 b h2
            rw [lessL_no] at g1 g2
            have := cmpL_swap a b
            exact cmpL_zero (by omega)
      subst hab
      rw [ih h.cons_inv (List.pairwise_cons.1 hL).2 (List.pairwise_cons.1 hM).2]

/-- Where two lists first differ. -/
theorem cmpL_at (a b : List Int) (k : Nat) (ha : k < a.length) (hb : k < b.length) (he : a.take k = b.take k) : cmpL a b = if a.getD k 0 < b.getD k 0 then -1 else if b.getD k 0 < a.getD k 0 then 1 else cmpL (a.drop (k + 1)) (b.drop (k + 1)) := by
  induction k generalizing a b with
  | zero =>
    cases a with
    | nil => simp at ha
    | cons x a =>
      cases b with
      | nil => simp at hb
      | cons y b => simp [cmpL]
  | succ k ih =>
    cases a with
    | nil => simp at ha
    | cons x a =>
      cases b with
      | nil => simp at hb
      | cons y b =>
        simp only [List.take_succ_cons, List.cons.injEq] at he
        obtain ⟨rfl, he⟩ := he
        rw [cmpL, if_neg (by omega), if_neg (by omega), ih a b (by simpa using ha) (by simpa using hb) he]
        simp

theorem cmpL_left (a b : List Int) (h : a.length ≤ b.length) (he : a = b.take a.length) : cmpL a b = if a.length < b.length then -1 else 0 := by
  induction a generalizing b with
  | nil => cases b <;> simp [cmpL]
  | cons x a ih =>
    cases b with
    | nil => simp at h
    | cons y b =>
      simp only [List.length_cons, List.take_succ_cons, List.cons.injEq] at he
      obtain ⟨rfl, he⟩ := he
      rw [cmpL, if_neg (by omega), if_neg (by omega), ih b (by simpa using h) he]
      simp

theorem cmpL_right (a b : List Int) (h : b.length < a.length) (he : a.take b.length = b) : cmpL a b = 1 := by
  induction b generalizing a with
  | nil =>
    cases a with
    | nil => simp at h
    | cons x a => rfl
  | cons y b ih =>
    cases a with
    | nil => simp at h
    | cons x a =>
      simp only [List.length_cons, List.take_succ_cons, List.cons.injEq] at he
      obtain ⟨rfl, he⟩ := he
      rw [cmpL, if_neg (by omega), if_neg (by omega), ih a (by simpa using h) he]

theorem take_snoc_eq {a b : List Int} {k : Nat} (ha : k < a.length) (hb : k < b.length) (he : a.take k = b.take k) (hx : a.getD k 0 = b.getD k 0) : a.take (k + 1) = b.take (k + 1) := by
  rw [List.take_succ_eq_append_getElem ha, List.take_succ_eq_append_getElem hb, he]
  rw [List.getD_eq_getElem?_getD, List.getElem?_eq_getElem ha, List.getD_eq_getElem?_getD, List.getElem?_eq_getElem hb] at hx
  have h2 : a[k] = b[k] := hx
  rw [h2]

set_option maxHeartbeats 1000000 in
theorem compare_any (u v : Value) (a b : List Int) (B T B2 T2 : Nat) (e : TypeId) (w : World) (hu : IntsIn e w B T u a) (hv : IntsIn e w B2 T2 v b) :
    Calls Try.prog 138 #[u, v] w fun e w' => e = .returned (.int .i64 (cmpL a b)) ∧ w = w' := by
  obtain ⟨a1, c1, g1, rfl, ha1, _, hm1, _, hc1, _⟩ := hu.1.view
  obtain ⟨a2, c2, g2, rfl, ha2, _, hm2, _, hc2, _⟩ := hv.1.view
  unfold maxLen at hm1 hm2
  have HC1 := Lib.hid hc1
  have HC2 := Lib.hid hc2
  have HA1 := Lib.hid ha1
  have HA2 := Lib.hid ha2
  clear hu hv ha1 ha2 hc1 hc2
  go_enter Try.func138, Try.ntmps138
  go_wp2
  go_loop [11] (fun i => ∃ k : Nat, k ≤ a.length ∧ k ≤ b.length ∧ i = .int .i64 k ∧ a.take k = b.take k) (fun i => a.length - (intOf i).toNat)
  case atStart => exact ⟨0, by omega, by omega, rfl, by simp⟩
  case round =>
    obtain ⟨k, hk, hk2, rfl, he⟩ := hrel
    have HE := Lib.hid he
    clear he
    by_cases hlt : k < a.length
    · obtain rfl := HA1.out (by omega)
      have x1 := HC1.out k hlt
      by_cases hlt2 : k < b.length
      · obtain rfl := HA2.out (by omega)
        have x2 := HC2.out k hlt2
        obtain ⟨x, hx⟩ : ∃ x, a.getD k 0 = x := ⟨_, rfl⟩
        obtain ⟨y, hy⟩ : ∃ y, b.getD k 0 = y := ⟨_, rfl⟩
        have hat := cmpL_at a b k hlt hlt2 HE.out
        rw [hx, hy] at hat
        rw [hx] at x1
        rw [hy] at x2
        have HX := Lib.hid hx
        have HY := Lib.hid hy
        have hle : ¬ (b.length : Int) ≤ (k : Int) := by omega
        clear hx hy
        by_cases h1 : x < y
        · have e1 : cmpI x y = -1 := by simp [cmpI, h1]
          have HAT := Lib.hid (hat.trans (if_pos h1))
          have E1 := Lib.hid e1
          clear hat e1
          go_wp2_with (go_at_call 121; (refine (cmpInt_any x y _).mono ?_); rw [E1.out]; rintro e w1 ⟨rfl, rfl⟩)
          go_ret
          exact ⟨by rw [HAT.out]; rfl, rfl⟩
        · by_cases h2 : y < x
          · have e1 : cmpI x y = 1 := by simp [cmpI, h1, h2]
            have HAT := Lib.hid (hat.trans ((if_neg h1).trans (if_pos h2)))
            have E1 := Lib.hid e1
            clear hat e1
            go_wp2_with (go_at_call 121; (refine (cmpInt_any x y _).mono ?_); rw [E1.out]; rintro e w1 ⟨rfl, rfl⟩)
            go_ret
            exact ⟨by rw [HAT.out]; rfl, rfl⟩
          · have e1 : cmpI x y = 0 := by simp [cmpI, h1, h2]
            have E1 := Lib.hid e1
            have HST := Lib.hid (take_snoc_eq hlt hlt2 HE.out (by rw [HX.out, HY.out]; omega))
            clear hat e1
            go_wp2_with (go_at_call 121; (refine (cmpInt_any x y _).mono ?_); rw [E1.out]; rintro e w1 ⟨rfl, rfl⟩)
            go_round
            case rel => exact ⟨k + 1, by omega, by omega, by go_num, HST.out⟩
            case measure => simp [intOf]; omega
      · obtain rfl : k = b.length := by omega
        have HR := Lib.hid (cmpL_right a b hlt (by rw [HE.out, List.take_length]))
        obtain ⟨x, hx⟩ : ∃ x, a.getD b.length 0 = x := ⟨_, rfl⟩
        rw [hx] at x1
        clear hx
        have hle : (b.length : Int) ≤ (b.length : Int) := by omega
        go_wp2
        go_ret
        exact ⟨by rw [HR.out]; rfl, rfl⟩
    · obtain rfl : k = a.length := by omega
      have hl := cmpL_left a b hk2 (by have := HE.out; rwa [List.take_length] at this)
      by_cases h1 : a.length < b.length
      · have HL := Lib.hid (hl.trans (if_pos h1))
        clear hl
        go_wp2
        go_ret
        exact ⟨by rw [HL.out]; rfl, rfl⟩
      · have HL := Lib.hid (hl.trans (if_neg h1))
        clear hl
        go_wp2
        go_ret
        exact ⟨by rw [HL.out]; rfl, rfl⟩
end Go.Proofs.Ytnldnjgnpdicnaa
