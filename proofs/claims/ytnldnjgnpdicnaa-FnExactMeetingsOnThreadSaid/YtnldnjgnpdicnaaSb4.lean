/- Symmetric merging: lists alone. Nothing of the program. -/
import Derived.Test.YtnldnjgnpdicnaaSb3
namespace Go.Proofs.Ytnldnjgnpdicnaa
open Go.RowKit

/-- A search by halves: all below i say yes, all from j on no. -/
def BS (c : Nat → Bool) (lo hi i j : Nat) : Prop := (∀ k, lo ≤ k → k < i → c k = true) ∧ (∀ k, j ≤ k → k < hi → c k = false)
def MonoB (c : Nat → Bool) (lo hi : Nat) : Prop := ∀ k h, lo ≤ k → k ≤ h → h < hi → c h = true → c k = true

theorem BS.start (c : Nat → Bool) (lo hi : Nat) : BS c lo hi lo hi := ⟨fun k h1 h2 => by omega, fun k h1 h2 => by omega⟩
theorem BS.yes {c : Nat → Bool} {lo hi i j t : Nat} (hm : MonoB c lo hi) (h : BS c lo hi i j) (h2 : t < hi) (hc : c t = true) : BS c lo hi (t + 1) j :=
  ⟨fun k h1 h3 => hm k t h1 (by omega) h2 hc, h.2⟩
theorem BS.no {c : Nat → Bool} {lo hi i j t : Nat} (hm : MonoB c lo hi) (h : BS c lo hi i j) (h1 : lo ≤ t) (hc : c t = false) : BS c lo hi i t :=
  ⟨h.1, fun k h3 h4 => by
    cases e : c k with
    | false => rfl
    | true => have := hm t k h1 h3 h4 e; rw [hc] at this; cases this⟩

theorem getD_appL (A R : List Int) (t : Nat) (h : t < A.length) : (A ++ R).getD t 0 = A.getD t 0 := by
  simp [List.getD, List.getElem?_append_left h]
theorem getD_appR (A R : List Int) (t s : Nat) (h : s = A.length + t) : (A ++ R).getD s 0 = R.getD t 0 := by
  subst h
  simp [List.getD, List.getElem?_append_right]
theorem getD_memS (A : List Int) (t : Nat) (h : t < A.length) : A.getD t 0 ∈ A := by
  simp [List.getD, h]

theorem SortS.at {L : Int → Int → Bool} {X : List Int} (h : SortS L X) {i j : Nat} (hij : i < j) (hj : j < X.length) : L (X.getD i 0) (X.getD j 0) = true := by
  have := List.pairwise_iff_getElem.1 h i j (by omega) hj hij
  simpa [List.getD, hj, (by omega : i < X.length)] using this

theorem OrdS.flip {M : List Int} {L : Int → Int → Bool} {cf : Int → Int → Int} (O : OrdS M L cf) {x y : Int} (hx : x ∈ M) (hy : y ∈ M) (h : x < y) : (L y x = false → L x y = true) ∧ (L x y = true → L y x = false) := by
  have := O.tot x hx y hy (by omega)
  constructor
  · intro e; rw [this, e]; rfl
  · intro e; rw [e] at this; cases hL : L y x with
    | false => rfl
    | true => rw [hL] at this; cases this

/-- Two parts that are to be merged. -/
structure MergeS (M : List Int) (L : Int → Int → Bool) (P X Y S : List Int) (a m b n : Nat) : Prop where
  hP : P.length = a
  hX : a + X.length = m
  hY : m + Y.length = b
  hn : n = (P ++ X ++ Y ++ S).length
  mem : ∀ z ∈ X ++ Y, z ∈ M
  sx : SortS L X
  sy : SortS L Y
  lt : ∀ x ∈ X, ∀ y ∈ Y, x < y

variable {M : List Int} {L : Int → Int → Bool} {cf : Int → Int → Int} {P X Y S : List Int} {a m b n : Nat}

theorem MergeS.bn (h : MergeS M L P X Y S a m b n) : b ≤ n := by
  have h1 := h.hn; have h2 := h.hP; have h3 := h.hX; have h4 := h.hY
  simp only [List.length_append] at h1
  omega
theorem MergeS.getX (h : MergeS M L P X Y S a m b n) (k : Nat) (h1 : a ≤ k) (h2 : k < m) : (P ++ X ++ Y ++ S).getD k 0 = X.getD (k - a) 0 ∧ X.getD (k - a) 0 ∈ X := by
  have e1 := h.hP; have e2 := h.hX
  refine ⟨?_, getD_memS _ _ (by omega)⟩
  rw [List.append_assoc (P ++ X), List.append_assoc P, getD_appR P _ (k - a) k (by omega), getD_appL _ _ _ (by omega)]
theorem MergeS.getY (h : MergeS M L P X Y S a m b n) (k : Nat) (h1 : m ≤ k) (h2 : k < b) : (P ++ X ++ Y ++ S).getD k 0 = Y.getD (k - m) 0 ∧ Y.getD (k - m) 0 ∈ Y := by
  have e1 := h.hP; have e2 := h.hX; have e3 := h.hY
  refine ⟨?_, getD_memS _ _ (by omega)⟩
  rw [List.append_assoc (P ++ X), getD_appR (P ++ X) _ (k - m) k (by rw [List.length_append]; omega), getD_appL _ _ _ (by omega)]

/-- What a comparison at h reads and tells. -/
def FctS (M : List Int) (L : Int → Int → Bool) (xs : List Int) (n : Nat) (neg : Bool) (c : Nat → Bool) (lo hi : Nat) (e1 e2 : Nat → Nat) : Prop :=
  ∀ h, lo ≤ h → h < hi → e1 h < n ∧ e2 h < n ∧ ∃ u v : Int, xs.getD (e1 h) 0 = u ∧ xs.getD (e2 h) 0 = v ∧ u ∈ M ∧ v ∈ M ∧ v < u ∧ c h = (neg ^^ L u v)

/-- One element ahead: where it goes. -/
def ShA (P Z S : List Int) (x : Int) (t : Nat) : List Int := P ++ Z.take t ++ x :: Z.drop t ++ S

theorem ShA_up (P Z S : List Int) (x : Int) (t k : Nat) (ht : t < Z.length) (hk : k = P.length + t) : sw (ShA P Z S x t) k (k + 1) = ShA P Z S x (t + 1) := by
  obtain ⟨y, Z', h1, h2, h3⟩ := drop_splitS Z t ht
  unfold ShA
  rw [h1, h2, h3]
  have e : P ++ Z.take t ++ x :: y :: Z' ++ S = (P ++ Z.take t) ++ x :: [] ++ y :: (Z' ++ S) := by simp
  rw [e, sw_mid _ _ _ _ _ _ _ (by simp; omega) (by simp; omega)]
  simp
theorem ShA_down (P Z S : List Int) (x : Int) (t k : Nat) (ht : t < Z.length) (hk : k = P.length + t) : sw (ShA P Z S x (t + 1)) (k + 1) k = ShA P Z S x t := by
  obtain ⟨y, Z', h1, h2, h3⟩ := drop_splitS Z t ht
  unfold ShA
  rw [h1, h2, h3]
  have e : P ++ (Z.take t ++ [y]) ++ x :: Z' ++ S = (P ++ Z.take t) ++ y :: [] ++ x :: (Z' ++ S) := by simp
  rw [e, sw_comm _ _ _ _ _ _ _ (by simp; omega) (by simp; omega)]
  simp
theorem ShA_length (P Z S : List Int) (x : Int) (t : Nat) : (ShA P Z S x t).length = P.length + Z.length + 1 + S.length := by
  have := congrArg List.length (List.take_append_drop t Z)
  simp only [List.length_append] at this
  simp only [ShA, List.length_append, List.length_cons]
  omega
theorem ShA_done {Z : List Int} (hs : SortS L Z) (x : Int) (t : Nat) (ht : t ≤ Z.length) (h1 : ∀ k, k < t → L (Z.getD k 0) x = true) (h2 : ∀ k, t ≤ k → k < Z.length → L x (Z.getD k 0) = true) :
    ∃ Z', ShA P Z S x t = P ++ Z' ++ S ∧ Z'.Perm (x :: Z) ∧ SortS L Z' := by
  refine ⟨Z.take t ++ x :: Z.drop t, by simp [ShA], ?_, ?_⟩
  · have := List.perm_middle (a := x) (l₁ := Z.take t) (l₂ := Z.drop t)
    rwa [List.take_append_drop] at this
  · refine sort_insert (by rw [List.take_append_drop]; exact hs) (fun z hz => ?_) (fun z hz => ?_)
    · obtain ⟨k, hk, rfl⟩ := List.getElem_of_mem hz
      have hk' : k < t ∧ k < Z.length := by rw [List.length_take] at hk; omega
      have := h1 k hk'.1
      simpa [List.getD, hk'.2] using this
    · obtain ⟨k, hk, rfl⟩ := List.getElem_of_mem hz
      have hk' : t + k < Z.length := by rw [List.length_drop] at hk; omega
      have := h2 (t + k) (by omega) hk'
      simpa [List.getD, hk'] using this

/-- One element on the left. -/
theorem MergeS.oneL (O : OrdS M L cf) {x : Int} (h : MergeS M L P [x] Y S a m b n) :
    P ++ [x] ++ Y ++ S = ShA P Y S x 0 ∧ FctS M L (P ++ [x] ++ Y ++ S) n false (fun k => L (Y.getD (k - m) 0) x) m b (fun k => k) (fun _ => a) ∧ MonoB (fun k => L (Y.getD (k - m) 0) x) m b ∧
    ∀ i, m ≤ i → i ≤ b → BS (fun k => L (Y.getD (k - m) 0) x) m b i i → ∃ Z, ShA P Y S x (i - m) = P ++ Z ++ S ∧ Z.Perm ([x] ++ Y) ∧ SortS L Z := by
  have e1 := h.hP; have e2 := h.hX; have e3 := h.hY; have e4 := h.bn
  have hxm : x ∈ M := h.mem x (by simp)
  have hym : ∀ k, m ≤ k → k < b → Y.getD (k - m) 0 ∈ M ∧ x < Y.getD (k - m) 0 := fun k h1 h2 => ⟨h.mem _ (List.mem_append_right _ (h.getY k h1 h2).2), h.lt x (by simp) _ (h.getY k h1 h2).2⟩
  simp only [List.length_singleton] at e2
  refine ⟨by simp [ShA], fun k h1 h2 => ⟨by show k < n; omega, by show a < n; omega, _, _, (h.getY k h1 h2).1, (h.getX a (by omega) (by omega)).1, (hym k h1 h2).1, by simpa using hxm, by simpa using (hym k h1 h2).2, by simp⟩, fun k j h1 h2 h3 hc => ?_, fun i h1 h2 hb => ?_⟩
  · rcases Nat.eq_or_lt_of_le h2 with rfl | hlt
    · exact hc
    · exact O.trans _ (hym k h1 (by omega)).1 _ (hym j (by omega) h3).1 _ hxm (h.sy.at (by omega) (by omega)) hc
  · refine ShA_done h.sy x (i - m) (by omega) (fun k hk => ?_) (fun k hk hl => ?_)
    · have := hb.1 (m + k) (by omega) (by omega)
      simpa using this
    · have := hb.2 (m + k) (by omega) (by omega)
      have hh := hym (m + k) (by omega) (by omega)
      simp only [Nat.add_sub_cancel_left] at hh this
      exact (O.flip hxm hh.1 hh.2).1 this

/-- One element on the right. -/
theorem MergeS.oneR (O : OrdS M L cf) {y : Int} (h : MergeS M L P X [y] S a m b n) :
    P ++ X ++ [y] ++ S = ShA P X S y X.length ∧ FctS M L (P ++ X ++ [y] ++ S) n true (fun k => !L y (X.getD (k - a) 0)) a m (fun _ => m) (fun k => k) ∧ MonoB (fun k => !L y (X.getD (k - a) 0)) a m ∧
    ∀ i, a ≤ i → i ≤ m → BS (fun k => !L y (X.getD (k - a) 0)) a m i i → ∃ Z, ShA P X S y (i - a) = P ++ Z ++ S ∧ Z.Perm (X ++ [y]) ∧ SortS L Z := by
  have e1 := h.hP; have e2 := h.hX; have e3 := h.hY; have e4 := h.bn
  have hym : y ∈ M := h.mem y (by simp)
  have hxm : ∀ k, a ≤ k → k < m → X.getD (k - a) 0 ∈ M ∧ X.getD (k - a) 0 < y := fun k h1 h2 => ⟨h.mem _ (List.mem_append_left _ (h.getX k h1 h2).2), h.lt _ (h.getX k h1 h2).2 y (by simp)⟩
  simp only [List.length_singleton] at e3
  refine ⟨by simp [ShA], fun k h1 h2 => ⟨by show m < n; omega, by show k < n; omega, _, _, (h.getY m (by omega) (by omega)).1, (h.getX k h1 h2).1, by simpa using hym, (hxm k h1 h2).1, by simpa using (hxm k h1 h2).2, by simp⟩, fun k j h1 h2 h3 hc => ?_, fun i h1 h2 hb => ?_⟩
  · rcases Nat.eq_or_lt_of_le h2 with rfl | hlt
    · exact hc
    · have hj := hxm j (by omega) h3
      have hk := hxm k h1 (by omega)
      have hcj : L y (X.getD (j - a) 0) = false := by simpa using hc
      have := O.trans _ hk.1 _ hj.1 _ hym (h.sx.at (i := k - a) (j := j - a) (by omega) (by omega)) ((O.flip hj.1 hym hj.2).1 hcj)
      simp only [(O.flip hk.1 hym hk.2).2 this, Bool.not_false]
  · obtain ⟨Z, z1, z2, z3⟩ := ShA_done (P := P) (S := S) h.sx y (i - a) (by omega) (fun k hk => by
      have := hb.1 (a + k) (by omega) (by omega)
      have hh := hxm (a + k) (by omega) (by omega)
      rw [Nat.add_sub_cancel_left] at hh
      simp only [Nat.add_sub_cancel_left, Bool.not_eq_true'] at this
      exact (O.flip hh.1 hym hh.2).1 this) (fun k hk hl => by
      have := hb.2 (a + k) (by omega) (by omega)
      simpa using this)
    exact ⟨Z, z1, z2.trans (List.perm_append_singleton y X).symm, z3⟩

/-- Many elements on both sides: c tells of the places from the middle. -/
theorem MergeS.many (O : OrdS M L cf) (h : MergeS M L P X Y S a m b n) (ham : a < m) (hmb : m < b) {mid lo hi p : Nat} (hmid : mid = (a + b) / 2) (hp : p + 1 = mid + m) (hlo : (mid < m ∧ lo + b = mid + m ∧ hi = mid) ∨ (m ≤ mid ∧ lo = a ∧ hi = m)) :
    FctS M L (P ++ X ++ Y ++ S) n true (fun k => !L (Y.getD (p - k - m) 0) (X.getD (k - a) 0)) lo hi (fun k => p - k) (fun k => k) ∧ MonoB (fun k => !L (Y.getD (p - k - m) 0) (X.getD (k - a) 0)) lo hi ∧ a ≤ lo ∧ lo ≤ hi ∧ hi ≤ m ∧ hi ≤ mid := by
  have e1 := h.hP; have e2 := h.hX; have e3 := h.hY; have e4 := h.bn
  have hb : ∀ k, lo ≤ k → k < hi → a ≤ k ∧ k < m ∧ m ≤ p - k ∧ p - k < b := fun k h1 h2 => by rcases hlo with ⟨_, _, _⟩ | ⟨_, _, _⟩ <;> omega
  have hxm : ∀ k, a ≤ k → k < m → X.getD (k - a) 0 ∈ M := fun k h1 h2 => h.mem _ (List.mem_append_left _ (h.getX k h1 h2).2)
  have hym : ∀ k, m ≤ k → k < b → Y.getD (k - m) 0 ∈ M := fun k h1 h2 => h.mem _ (List.mem_append_right _ (h.getY k h1 h2).2)
  have hlt : ∀ k j, a ≤ k → k < m → m ≤ j → j < b → X.getD (k - a) 0 < Y.getD (j - m) 0 := fun k j h1 h2 h3 h4 => h.lt _ (h.getX k h1 h2).2 _ (h.getY j h3 h4).2
  refine ⟨fun k h1 h2 => ?_, fun k j h1 h2 h3 hc => ?_, ?_, ?_, ?_, ?_⟩
  · obtain ⟨b1, b2, b3, b4⟩ := hb k h1 h2
    exact ⟨by show p - k < n; omega, by show k < n; omega, _, _, (h.getY (p - k) b3 b4).1, (h.getX k b1 b2).1, hym _ b3 b4, hxm _ b1 b2, hlt k (p - k) b1 b2 b3 b4, by simp⟩
  · obtain ⟨b1, b2, b3, b4⟩ := hb k h1 (by omega)
    obtain ⟨c1, c2, c3, c4⟩ := hb j (by omega) h3
    rcases Nat.eq_or_lt_of_le h2 with rfl | hl
    · exact hc
    · have hcj : L (Y.getD (p - j - m) 0) (X.getD (j - a) 0) = false := by simpa using hc
      have l1 := (O.flip (hxm j c1 c2) (hym _ c3 c4) (hlt j (p - j) c1 c2 c3 c4)).1 hcj
      have l2 := h.sx.at (i := k - a) (j := j - a) (by omega) (by omega)
      have l3 := h.sy.at (i := p - j - m) (j := p - k - m) (by omega) (by omega)
      have l4 := O.trans _ (hxm k b1 b2) _ (hxm j c1 c2) _ (hym _ b3 b4) l2 (O.trans _ (hxm j c1 c2) _ (hym _ c3 c4) _ (hym _ b3 b4) l1 l3)
      simp only [(O.flip (hxm k b1 b2) (hym _ b3 b4) (hlt k (p - k) b1 b2 b3 b4)).2 l4, Bool.not_false]
  all_goals rcases hlo with ⟨_, _, _⟩ | ⟨_, _, _⟩ <;> omega

/-- The parts that are exchanged, and what is merged behind that. -/
theorem MergeS.halves (O : OrdS M L cf) (h : MergeS M L P X Y S a m b n) (ham : a < m) (hmb : m < b) {mid lo hi p st en : Nat} (hmid : mid = (a + b) / 2) (hp : p + 1 = mid + m) (hlo : (mid < m ∧ lo + b = mid + m ∧ hi = mid) ∨ (m ≤ mid ∧ lo = a ∧ hi = m))
    (h1 : lo ≤ st) (h2 : st ≤ hi) (hen : en + st = mid + m) (hb : BS (fun k => !L (Y.getD (p - k - m) 0) (X.getD (k - a) 0)) lo hi st st) :
    ∃ X1 X2 Y1 Y2 : List Int, X = X1 ++ X2 ∧ Y = Y1 ++ Y2 ∧ a + X1.length = st ∧ st + Y1.length = mid ∧ mid + X2.length = en ∧ en + Y2.length = b ∧ X1.length + Y1.length + a = mid ∧
      RotL (P ++ X ++ Y ++ S) m (m - st) (en - m) (P ++ X1 ++ Y1 ++ X2 ++ Y2 ++ S) ∧ (st = m ∨ en = m → P ++ X ++ Y ++ S = P ++ X1 ++ Y1 ++ X2 ++ Y2 ++ S) ∧
      (∀ x ∈ X1, ∀ y ∈ Y2, L x y = true) ∧ (∀ y ∈ Y1, ∀ x ∈ X2, L y x = true) ∧ m ≤ en ∧ en ≤ b ∧ a ≤ st ∧ st ≤ m ∧ st ≤ mid ∧ mid ≤ en := by
  have e1 := h.hP; have e2 := h.hX; have e3 := h.hY; have e4 := h.bn
  have hxm : ∀ k, a ≤ k → k < m → X.getD (k - a) 0 ∈ M := fun k h1 h2 => h.mem _ (List.mem_append_left _ (h.getX k h1 h2).2)
  have hym : ∀ k, m ≤ k → k < b → Y.getD (k - m) 0 ∈ M := fun k h1 h2 => h.mem _ (List.mem_append_right _ (h.getY k h1 h2).2)
  have hlt : ∀ k j, a ≤ k → k < m → m ≤ j → j < b → X.getD (k - a) 0 < Y.getD (j - m) 0 := fun k j h1 h2 h3 h4 => h.lt _ (h.getX k h1 h2).2 _ (h.getY j h3 h4).2
  have b0 : m ≤ en ∧ en ≤ b ∧ a ≤ st ∧ st ≤ m ∧ st ≤ mid ∧ mid ≤ en := by rcases hlo with ⟨_, _, _⟩ | ⟨_, _, _⟩ <;> omega
  obtain ⟨b1, b2, b3, b4, b5, b6⟩ := b0
  have l1 : (X.take (st - a)).length = st - a := by rw [List.length_take]; omega
  have l2 : (X.drop (st - a)).length = m - st := by rw [List.length_drop]; omega
  have l3 : (Y.take (en - m)).length = en - m := by rw [List.length_take]; omega
  have l4 : (Y.drop (en - m)).length = b - en := by rw [List.length_drop]; omega
  have sX : X = X.take (st - a) ++ X.drop (st - a) := (List.take_append_drop _ _).symm
  have sY : Y = Y.take (en - m) ++ Y.drop (en - m) := (List.take_append_drop _ _).symm
  refine ⟨X.take (st - a), X.drop (st - a), Y.take (en - m), Y.drop (en - m), sX, sY, by omega, by omega, by omega, by omega, by omega, ?_, ?_, ?_, ?_, b1, b2, b3, b4, b5, b6⟩
  · refine ⟨P ++ X.take (st - a), X.drop (st - a), Y.take (en - m), Y.drop (en - m) ++ S, ?_, by omega, by omega, by rw [List.length_append]; omega, by simp⟩
    have e : P ++ X ++ Y ++ S = P ++ (X.take (st - a) ++ X.drop (st - a)) ++ (Y.take (en - m) ++ Y.drop (en - m)) ++ S := by rw [← sX, ← sY]
    rw [e]
    simp only [List.append_assoc]
  · intro hh
    rcases hh with hh | hh
    · have : X.drop (st - a) = [] := List.drop_of_length_le (by omega)
      have t : X.take (st - a) = X := List.take_of_length_le (by omega)
      rw [this, t]
      simp
    · have : Y.take (en - m) = [] := by rw [hh, Nat.sub_self]; rfl
      have t : Y.drop (en - m) = Y := by rw [hh, Nat.sub_self]; rfl
      rw [this, t]
      simp
  · intro x hx y hy
    obtain ⟨i, hi', rfl⟩ := List.getElem_of_mem hx
    obtain ⟨j, hj', rfl⟩ := List.getElem_of_mem hy
    rw [l1] at hi'
    rw [l4] at hj'
    have ex : (X.take (st - a))[i] = X.getD (a + i - a) 0 := by simp [List.getD, (by omega : i < X.length)]
    have ey : (Y.drop (en - m))[j] = Y.getD (en + j - m) 0 := by
      have : en + j - m = en - m + j := by omega
      rw [this]
      simp [List.getD, (by omega : en - m + j < Y.length)]
    rw [ex, ey]
    by_cases hs : lo < st
    · have hc := hb.1 (st - 1) (by omega) (by omega)
      have hpe : p - (st - 1) = en := by omega
      simp only [hpe, Bool.not_eq_true'] at hc
      have q1 := (O.flip (hxm (st - 1) (by omega) (by omega)) (hym en (by omega) (by omega)) (hlt (st - 1) en (by omega) (by omega) (by omega) (by omega))).1 hc
      have q2 : L (X.getD (a + i - a) 0) (Y.getD (en - m) 0) = true := by
        rcases Nat.eq_or_lt_of_le (by omega : a + i ≤ st - 1) with e | e
        · rw [e]; exact q1
        · exact O.trans _ (hxm (a + i) (by omega) (by omega)) _ (hxm (st - 1) (by omega) (by omega)) _ (hym en (by omega) (by omega)) (h.sx.at (by omega) (by omega)) q1
      rcases Nat.eq_zero_or_pos j with e | e
      · subst e; exact q2
      · exact O.trans _ (hxm (a + i) (by omega) (by omega)) _ (hym en (by omega) (by omega)) _ (hym (en + j) (by omega) (by omega)) q2 (h.sy.at (by omega) (by omega))
    · exfalso; rcases hlo with ⟨_, _, _⟩ | ⟨_, _, _⟩ <;> omega
  · intro y hy x hx
    obtain ⟨j, hj', rfl⟩ := List.getElem_of_mem hy
    obtain ⟨i, hi', rfl⟩ := List.getElem_of_mem hx
    rw [l3] at hj'
    rw [l2] at hi'
    have ey : (Y.take (en - m))[j] = Y.getD (m + j - m) 0 := by simp [List.getD, (by omega : j < Y.length)]
    have ex : (X.drop (st - a))[i] = X.getD (st + i - a) 0 := by
      have : st + i - a = st - a + i := by omega
      rw [this]
      simp [List.getD, (by omega : st - a + i < X.length)]
    rw [ex, ey]
    by_cases hs : st < hi
    · have hc := hb.2 st (by omega) hs
      have hpe : p - st = en - 1 := by omega
      simp only [hpe, Bool.not_eq_false'] at hc
      have q2 : L (Y.getD (m + j - m) 0) (X.getD (st - a) 0) = true := by
        rcases Nat.eq_or_lt_of_le (by omega : m + j ≤ en - 1) with e | e
        · rw [e]; exact hc
        · exact O.trans _ (hym (m + j) (by omega) (by omega)) _ (hym (en - 1) (by omega) (by omega)) _ (hxm st (by omega) (by omega)) (h.sy.at (by omega) (by omega)) hc
      rcases Nat.eq_zero_or_pos i with e | e
      · subst e; exact q2
      · exact O.trans _ (hym (m + j) (by omega) (by omega)) _ (hxm st (by omega) (by omega)) _ (hxm (st + i) (by omega) (by omega)) q2 (h.sx.at (by omega) (by omega))
    · exfalso; rcases hlo with ⟨_, _, _⟩ | ⟨_, _, _⟩ <;> omega
end Go.Proofs.Ytnldnjgnpdicnaa
