/- Letters put into two halves. Nothing of the program. -/
import Derived.Test.YtpcebcgmbngababB1
namespace Go.Proofs.Ytpcebcgmbngabab
set_option linter.unusedVariables false

/-- Two interlaced letters are in different halves just if ev says so. -/
def Fits (n : Nat) (la ev : Nat → Nat → Bool) (col : Nat → Bool) : Prop := ∀ i j, i < n → j < n → la i j = true → (col i != col j) = ev i j

/-- The half that the half h of a letter leads another one to. -/
def ledI (e : Bool) (h : Int) : Int := if e then -h else h

structure HInv (n : Nat) (la ev : Nat → Nat → Bool) (h : List Int) : Prop where
  len : h.length = n
  val : ∀ i, i < n → h.getD i 0 = -1 ∨ h.getD i 0 = 0 ∨ h.getD i 0 = 1
  ext : (∃ col, Fits n la ev col) → ∃ col, Fits n la ev col ∧ ∀ i, i < n → (h.getD i 0 = 1 → col i = true) ∧ (h.getD i 0 = -1 → col i = false)

theorem setD_get (l : List Int) (x : Int) (i k : Nat) (h : k < l.length) : (l.set k x).getD i 0 = if i = k then x else l.getD i 0 := by
  rw [List.getD, List.getD, List.getElem?_set]
  by_cases e : k = i
  · subst e; simp [h]
  · rw [if_neg e, if_neg (fun e2 => e e2.symm)]

theorem HInv.start (n : Nat) (la ev : Nat → Nat → Bool) : HInv n la ev (List.replicate n 0) := by
  have h0 : ∀ i, (List.replicate n (0 : Int)).getD i 0 = 0 := by
    intro i
    rw [List.getD, List.getElem?_replicate]
    split <;> rfl
  exact ⟨by simp, fun i _ => .inr (.inl (h0 i)), fun ⟨col, hc⟩ => ⟨col, hc, fun i _ => by rw [h0 i]; exact ⟨fun e => by omega, fun e => by omega⟩⟩⟩

theorem HInv.led {n : Nat} {la ev : Nat → Nat → Bool} {h : List Int} (H : HInv n la ev h) {i j : Nat} (hi : i < n) (hj : j < n) (hl : la i j = true) (hi0 : h.getD i 0 ≠ 0) :
    HInv n la ev (h.set j (ledI (ev i j) (h.getD i 0))) ∨ h.getD j 0 ≠ 0 := by
  by_cases hj0 : h.getD j 0 = 0
  · left
    have hjl : j < h.length := by rw [H.len]; exact hj
    have hv := H.val i hi
    refine ⟨by rw [List.length_set]; exact H.len, fun k hk => ?_, fun hex => ?_⟩
    · rw [setD_get h _ k j hjl]
      by_cases e : k = j
      · rw [if_pos e]; unfold ledI; split <;> omega
      · rw [if_neg e]; exact H.val k hk
    · obtain ⟨col, hc, ha⟩ := H.ext hex
      refine ⟨col, hc, fun k hk => ?_⟩
      rw [setD_get h _ k j hjl]
      by_cases e : k = j
      · subst e
        rw [if_pos rfl]
        have h1 := hc i k hi hj hl
        have h2 := ha i hi
        cases hE : ev i k with
        | true =>
          rw [hE] at h1
          unfold ledI
          rw [if_pos rfl]
          constructor
          · intro e
            have := h2.2 (by omega)
            rw [this] at h1
            simpa using h1
          · intro e
            have := h2.1 (by omega)
            rw [this] at h1
            simpa using h1
        | false =>
          rw [hE] at h1
          unfold ledI
          rw [if_neg (by simp)]
          constructor
          · intro e
            have := h2.1 e
            rw [this] at h1
            simpa using h1
          · intro e
            have := h2.2 e
            rw [this] at h1
            simpa using h1
      · rw [if_neg e]; exact ha k hk
  · exact .inr hj0

theorem HInv.bad {n : Nat} {la ev : Nat → Nat → Bool} {h : List Int} (H : HInv n la ev h) {i j : Nat} (hi : i < n) (hj : j < n) (hl : la i j = true) (hi0 : h.getD i 0 ≠ 0) (hj0 : h.getD j 0 ≠ 0)
    (hne : h.getD j 0 ≠ ledI (ev i j) (h.getD i 0)) : ¬ ∃ col, Fits n la ev col := by
  intro hex
  obtain ⟨col, hc, ha⟩ := H.ext hex
  have h1 := hc i j hi hj hl
  have hvi := H.val i hi
  have hvj := H.val j hj
  have ai := ha i hi
  have aj := ha j hj
  unfold ledI at hne
  cases hE : ev i j with
  | true =>
    rw [hE] at h1 hne
    rw [if_pos rfl] at hne
    have h2 : h.getD j 0 = h.getD i 0 := by omega
    rw [h2] at aj
    rcases hvi with e | e | e
    · rw [ai.2 e, aj.2 e] at h1; simp at h1
    · exact hi0 e
    · rw [ai.1 e, aj.1 e] at h1; simp at h1
  | false =>
    rw [hE] at h1 hne
    rw [if_neg (by simp)] at hne
    rcases hvi with e | e | e
    · have h3 : h.getD j 0 = 1 := by omega
      rw [ai.2 e, aj.1 h3] at h1; simp at h1
    · exact hi0 e
    · have h3 : h.getD j 0 = -1 := by omega
      rw [ai.1 e, aj.2 h3] at h1; simp at h1

/-- What the letters in halves lead to is there already. -/
def Closed (n : Nat) (la ev : Nat → Nat → Bool) (h : List Int) : Prop := ∀ i j, i < n → j < n → la i j = true → h.getD i 0 ≠ 0 → h.getD j 0 = ledI (ev i j) (h.getD i 0)

theorem ledI_ne {e : Bool} {h : Int} (hh : h ≠ 0) : ledI e h ≠ 0 := by unfold ledI; split <;> omega

theorem HInv.next {n : Nat} {la ev : Nat → Nat → Bool} {h : List Int} (H : HInv n la ev h) (hsym : ∀ i j, i < n → j < n → la i j = la j i) (hC : Closed n la ev h) {q : Nat} (hq : q < n) (hq0 : h.getD q 0 = 0) : HInv n la ev (h.set q 1) := by
  have hql : q < h.length := by rw [H.len]; exact hq
  refine ⟨by rw [List.length_set]; exact H.len, fun k hk => ?_, fun hex => ?_⟩
  · rw [setD_get h _ k q hql]
    by_cases e : k = q
    · rw [if_pos e]; omega
    · rw [if_neg e]; exact H.val k hk
  · obtain ⟨col, hc, ha⟩ := H.ext hex
    have hboth : ∀ i j, i < n → j < n → la i j = true → (h.getD i 0 = 0 ↔ h.getD j 0 = 0) := by
      intro i j hi hj hl
      constructor
      · intro e
        apply Classical.byContradiction
        intro e2
        have := hC j i hj hi (by rw [← hsym i j hi hj]; exact hl) e2
        rw [e] at this
        exact ledI_ne e2 this.symm
      · intro e
        apply Classical.byContradiction
        intro e2
        have := hC i j hi hj hl e2
        rw [e] at this
        exact ledI_ne e2 this.symm
    cases hcq : col q with
    | true =>
      refine ⟨col, hc, fun k hk => ?_⟩
      rw [setD_get h _ k q hql]
      by_cases e : k = q
      · subst e; rw [if_pos rfl]; exact ⟨fun _ => hcq, fun e => by omega⟩
      · rw [if_neg e]; exact ha k hk
    | false =>
      refine ⟨fun k => if h.getD k 0 = 0 then !col k else col k, fun i j hi hj hl => ?_, fun k hk => ?_⟩
      · have h1 := hc i j hi hj hl
        have h2 := hboth i j hi hj hl
        simp only
        by_cases e : h.getD i 0 = 0
        · rw [if_pos e, if_pos (h2.1 e), ← h1]
          cases col i <;> cases col j <;> rfl
        · rw [if_neg e, if_neg (fun e2 => e (h2.2 e2)), h1]
      · rw [setD_get h _ k q hql]
        simp only
        by_cases e : k = q
        · subst e
          rw [if_pos rfl, if_pos hq0, hcq]
          exact ⟨fun _ => rfl, fun e => by omega⟩
        · rw [if_neg e]
          by_cases e2 : h.getD k 0 = 0
          · rw [e2]; exact ⟨fun e => by omega, fun e => by omega⟩
          · rw [if_neg e2]; exact ha k hk

theorem HInv.done {n : Nat} {la ev : Nat → Nat → Bool} {h : List Int} (H : HInv n la ev h) (hC : Closed n la ev h) (h0 : ∀ q, q < n → h.getD q 0 ≠ 0) : ∃ col, Fits n la ev col := by
  refine ⟨fun k => decide (h.getD k 0 = 1), fun i j hi hj hl => ?_⟩
  have h1 := hC i j hi hj hl (h0 i hi)
  have vi := H.val i hi
  have ni := h0 i hi
  simp only
  unfold ledI at h1
  cases hE : ev i j with
  | true =>
    rw [hE, if_pos rfl] at h1
    rcases vi with e | e | e
    · rw [h1, e]; rfl
    · exact absurd e ni
    · rw [h1, e]; rfl
  | false =>
    rw [hE, if_neg (by simp)] at h1
    rw [h1]
    simp

/-- How many letters are in no half. -/
def zerosI (h : List Int) : Nat := h.count 0

theorem zerosI_set : ∀ (h : List Int) (j : Nat) (x : Int), j < h.length → h.getD j 0 = 0 → x ≠ 0 → zerosI (h.set j x) + 1 = zerosI h
  | [], j, _, hj, _, _ => by simp at hj
  | a :: h, 0, x, _, h0, hx => by
    simp at h0
    subst h0
    unfold zerosI
    rw [List.set_cons_zero, List.count_cons, List.count_cons, if_neg (by simpa using hx), if_pos (by simp)]
  | a :: h, j + 1, x, hj, h0, hx => by
    have := zerosI_set h j x (by simpa using hj) (by simpa using h0) hx
    unfold zerosI at this ⊢
    rw [List.set_cons_succ, List.count_cons, List.count_cons]
    omega

/-- The model's test of one way to put the letters into halves, told by the bits of a number. -/
def fitsM (n : Nat) (la ev : Nat → Nat → Bool) (m : Nat) : Bool := (List.range n).all fun a => (List.range a).all fun b => !(la a b && ((m.testBit a != m.testBit b) != ev a b))

def halvesB (n : Nat) (la ev : Nat → Nat → Bool) : Bool := (List.range (2 ^ n)).any (fitsM n la ev)

theorem fitsM_iff (n : Nat) (la ev : Nat → Nat → Bool) (m : Nat) : fitsM n la ev m = true ↔ ∀ a b, a < n → b < a → la a b = true → (m.testBit a != m.testBit b) = ev a b := by
  simp only [fitsM, List.all_eq_true, List.mem_range]
  constructor
  · intro h a b ha hb hl
    have := h a ha b hb
    rw [hl] at this
    revert this
    cases (m.testBit a != m.testBit b) <;> cases ev a b <;> simp
  · intro h a ha b hb
    cases hl : la a b with
    | false => rfl
    | true => simp [h a b ha hb hl]

def numOf (col : Nat → Bool) : Nat → Nat
  | 0 => 0
  | n + 1 => numOf col n + if col n then 2 ^ n else 0

theorem numOf_lt (col : Nat → Bool) : ∀ n, numOf col n < 2 ^ n
  | 0 => by simp [numOf]
  | n + 1 => by
    have := numOf_lt col n
    rw [numOf, Nat.pow_succ]
    split <;> omega

theorem numOf_bit (col : Nat → Bool) : ∀ n k, k < n → (numOf col n).testBit k = col k
  | 0, _, h => by omega
  | n + 1, k, h => by
    have hl := numOf_lt col n
    rw [numOf]
    by_cases e : k = n
    · subst e
      cases hc : col k with
      | true => rw [if_pos rfl, Nat.add_comm, Nat.testBit_two_pow_add_eq, Nat.testBit_lt_two_pow hl]; rfl
      | false => rw [if_neg (by simp), Nat.add_zero, Nat.testBit_lt_two_pow hl]
    · have ih := numOf_bit col n k (by omega)
      cases hc : col n with
      | true => rw [if_pos rfl, Nat.add_comm, Nat.testBit_two_pow_add_gt (by omega)]; exact ih
      | false => rw [if_neg (by simp), Nat.add_zero]; exact ih

theorem halvesB_iff (n : Nat) (la ev : Nat → Nat → Bool) (hla : ∀ i j, i < n → j < n → la i j = la j i) (hev : ∀ i j, i < n → j < n → ev i j = ev j i) (hno : ∀ i, i < n → la i i = false) :
    halvesB n la ev = true ↔ ∃ col, Fits n la ev col := by
  simp only [halvesB, List.any_eq_true, List.mem_range]
  constructor
  · rintro ⟨m, _, h⟩
    have h := (fitsM_iff n la ev m).1 h
    refine ⟨fun k => m.testBit k, fun i j hi hj hl => ?_⟩
    rcases Nat.lt_trichotomy i j with e | e | e
    · have := h j i hj e (by rw [hla j i hj hi]; exact hl)
      rw [hev i j hi hj, ← this]
      simp only
      cases m.testBit i <;> cases m.testBit j <;> rfl
    · subst e; rw [hno i hi] at hl; cases hl
    · exact h i j hi e hl
  · rintro ⟨col, hc⟩
    refine ⟨numOf col n, numOf_lt col n, (fitsM_iff n la ev _).2 fun a b ha hb hl => ?_⟩
    rw [numOf_bit col n a ha, numOf_bit col n b (by omega)]
    exact hc a b ha (by omega) hl

end Go.Proofs.Ytpcebcgmbngabab
