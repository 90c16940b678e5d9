/- Fewest chords to drop: masks and lists of indices, and whether one hits each pair. -/
import Derived.Test.YtpcebcgmbngababFB
import Derived.Test.YtpcebcgmbngababFC
import Derived.Test.YtpcebcgmbngababFD
import Derived.Test.YtpcebcgmbngababKP
namespace Go.Proofs.Ytpcebcgmbngabab
open Go.RowKit
set_option linter.unusedVariables false

def mapI (d : List Nat) : List Int := d.map fun (k : Nat) => (k : Int)

/-- Whether a list of indices holds a chord of each pair that crosses. -/
def hitP (d : List Nat) (r : List Int) : Bool := (mapI d).contains (r.getD 0 0) || (mapI d).contains (r.getD 1 0)
def freeP (xs : List (Int × Int)) (d : List Nat) : Bool := (allP xs xs.length).all (hitP d)

theorem idx_mem : ∀ n i m k, k ∈ idxM n i m ↔ i ≤ k ∧ k < i + n ∧ m / 2 ^ (i + n - 1 - k) % 2 = 1
  | 0, i, m, k => by simp [idxM]; omega
  | n + 1, i, m, k => by
    have ih := idx_mem n (i + 1) m k
    have e : i + 1 + n - 1 - k = i + (n + 1) - 1 - k := by omega
    rw [e] at ih
    rw [idxM]
    by_cases hk : k = i
    · subst hk
      have e2 : k + (n + 1) - 1 - k = n := by omega
      rw [e2] at ih ⊢
      by_cases h : m / 2 ^ n % 2 = 1
      · simp [h]
      · rw [if_neg h, ih]; omega
    · split
      · rw [List.mem_cons, ih]; omega
      · rw [ih]; omega

theorem mem_mapI (d : List Nat) (a : Nat) : (mapI d).contains (a : Int) = d.contains a := by
  unfold mapI
  rw [Bool.eq_iff_iff, List.contains_iff_mem, List.contains_iff_mem, List.mem_map]
  constructor
  · rintro ⟨x, hx, e⟩
    obtain rfl : x = a := by omega
    exact hx
  · exact fun h => ⟨a, h, rfl⟩

theorem held_idx (m n a : Nat) (h : a < n) : (mapI (idxM n 0 m)).contains (a : Int) = heldM m n a := by
  rw [mem_mapI, Bool.eq_iff_iff, List.contains_iff_mem, idx_mem]
  unfold heldM
  rw [decide_eq_true_eq, show 0 + n - 1 - a = n - 1 - a by omega]
  omega

theorem heldL_idx (m n : Nat) : ∀ k, k ≤ n → heldL m n k ++ mapI (idxM (n - k) k m) = mapI (idxM n 0 m)
  | 0, _ => rfl
  | k + 1, h => by
    have ih := heldL_idx m n k (by omega)
    obtain ⟨t, ht⟩ : ∃ t, n - k = t + 1 := ⟨n - k - 1, by omega⟩
    rw [ht, idxM] at ih
    rw [heldL, show n - (k + 1) = t by omega, ← ih]
    unfold heldM
    rw [show n - 1 - k = t by omega]
    by_cases hb : m / 2 ^ t % 2 = 1
    · simp [hb, mapI]
    · simp [hb]

theorem heldL_all (m n : Nat) : heldL m n n = mapI (idxM n 0 m) := by
  have h := heldL_idx m n n (Nat.le_refl _)
  rw [Nat.sub_self] at h
  simpa [idxM, mapI] using h

theorem first_fail (Q : Nat → Bool) : ∀ N, (∀ k, k < N → Q k = true) ∨ ∃ e, e < N ∧ Q e = false ∧ ∀ k, k < e → Q k = true
  | 0 => .inl fun k hk => by omega
  | N + 1 => by
    rcases first_fail Q N with h | ⟨e, h1, h2, h3⟩
    · cases hq : Q N with
      | true =>
        refine .inl fun k hk => ?_
        by_cases e : k = N
        · rw [e]; exact hq
        · exact h k (by omega)
      | false => exact .inr ⟨N, by omega, hq, h⟩
    · exact .inr ⟨e, by omega, h2, h3⟩

theorem free_yes {xs : List (Int × Int)} {d : List Nat} (h : ∀ k, k < (allP xs xs.length).length → hitP d ((allP xs xs.length).getD k []) = true) : freeP xs d = true := by
  unfold freeP
  rw [List.all_eq_true]
  intro r hr
  obtain ⟨k, hk, rfl⟩ := List.mem_iff_getElem.1 hr
  have := h k hk
  rwa [List.getD, List.getElem?_eq_getElem hk] at this

theorem free_no {xs : List (Int × Int)} {d : List Nat} {k : Nat} (hk : k < (allP xs xs.length).length) (h : hitP d ((allP xs xs.length).getD k []) = false) : freeP xs d = false := by
  cases hf : freeP xs d with
  | false => rfl
  | true =>
    unfold freeP at hf
    rw [List.all_eq_true] at hf
    have := hf _ (List.getElem_mem hk)
    rw [List.getD, List.getElem?_eq_getElem hk] at h
    rw [show (some (allP xs xs.length)[k]).getD [] = (allP xs xs.length)[k] from rfl] at h
    rw [h] at this
    cases this

theorem pair_at (xs : List (Int × Int)) (k : Nat) (hk : k < (allP xs xs.length).length) : ∃ a b : Nat, (allP xs xs.length).getD k [] = [(a : Int), (b : Int)] ∧ a < b ∧ b < xs.length := by
  have := allP_elems xs xs.length _ (List.getElem_mem hk)
  rwa [List.getD, List.getElem?_eq_getElem hk]

def gOf (v : Value) : Nat := match v with | .slice (some ⟨g, _, _⟩) _ _ => g | _ => 0
def cOf (v : Value) : Nat := match v with | .slice _ _ c => c | _ => 0

theorem holdsOne_any (xs : List (Int × Int)) (m B T : Nat) (v : Value) (vs : List Value) (w : World) (hm : m < 4096) (hn : xs.length ≤ 12) (h : RowsAt 39 3 w B T v vs (allP xs xs.length)) :
    Calls Try.prog 75 #[.int .i64 m, .int .i64 xs.length, v] w fun e w' => e = .returned (.bool (freeP xs (idxM xs.length 0 m))) ∧ Below w.heap.size w w' := by
  obtain ⟨a0, cap, g, rfl, ha0, hml, hc, _⟩ := h.view
  have hN : (allP xs xs.length).length ≤ 1600 := (pairs_small xs (by omega)).1
  have hrow : ∀ k, k < (allP xs xs.length).length → ∃ a b : Nat, (allP xs xs.length).getD k [] = [(a : Int), (b : Int)] ∧ a < xs.length ∧ b < xs.length ∧ vs.getD k (.slice none 0 0) = .slice (some ⟨gOf (vs.getD k (.slice none 0 0)), 0, none⟩) 2 (cOf (vs.getD k (.slice none 0 0))) ∧
      w.cell? ⟨gOf (vs.getD k (.slice none 0 0)), 0, none⟩ = some (.int .i64 (a : Nat)) ∧ w.cell? ⟨gOf (vs.getD k (.slice none 0 0)), 1, none⟩ = some (.int .i64 (b : Nat)) := fun k hk => by
    obtain ⟨a, b, e, h1, h2⟩ := pair_at xs k hk
    obtain ⟨gr, cp, hv, c0, c1⟩ := h.pair hk e
    rw [hv]
    exact ⟨a, b, e, by omega, h2, rfl, c0, c1⟩
  have hQ : ∀ k, k < (allP xs xs.length).length → hitP (idxM xs.length 0 m) ((allP xs xs.length).getD k []) = (heldM m xs.length (((allP xs xs.length).getD k []).getD 0 0).toNat || heldM m xs.length (((allP xs xs.length).getD k []).getD 1 0).toNat) := fun k hk => by
    obtain ⟨a, b, e, h1, h2, _⟩ := hrow k hk
    rw [e]
    unfold hitP
    simp only [List.getD_cons_zero, List.getD_cons_succ]
    rw [held_idx m _ a h1, held_idx m _ b h2]
    simp
  have hE : ∃ e : Nat, ∃ b : Bool, e ≤ (allP xs xs.length).length ∧ b = freeP xs (idxM xs.length 0 m) ∧ (∀ k, k < e → (heldM m xs.length (((allP xs xs.length).getD k []).getD 0 0).toNat || heldM m xs.length (((allP xs xs.length).getD k []).getD 1 0).toNat) = true) ∧
    ((e = (allP xs xs.length).length ∧ b = true) ∨ (e < (allP xs xs.length).length ∧ b = false ∧ (heldM m xs.length (((allP xs xs.length).getD e []).getD 0 0).toNat || heldM m xs.length (((allP xs xs.length).getD e []).getD 1 0).toNat) = false)) := by
    rcases first_fail (fun k => heldM m xs.length (((allP xs xs.length).getD k []).getD 0 0).toNat || heldM m xs.length (((allP xs xs.length).getD k []).getD 1 0).toNat) (allP xs xs.length).length with hh | ⟨e, h1, h2, h3⟩
    · exact ⟨_, true, Nat.le_refl _, (free_yes fun k hk => (hQ k hk).trans (hh k hk)).symm, hh, .inl ⟨rfl, rfl⟩⟩
    · exact ⟨e, false, Nat.le_of_lt h1, (free_no h1 ((hQ e h1).trans h2)).symm, h3, .inr ⟨h1, rfl, h2⟩⟩
  obtain ⟨e, b, h1, h2, h3, h4⟩ := hE
  rw [← h2]
  exact holdsOne_end m xs.length (allP xs xs.length).length cap g a0 (fun k => gOf (vs.getD k (.slice none 0 0))) (fun k => cOf (vs.getD k (.slice none 0 0))) (fun k => (((allP xs xs.length).getD k []).getD 0 0).toNat) (fun k => (((allP xs xs.length).getD k []).getD 1 0).toNat) w hm hn (by omega)
    (fun k hk => by obtain ⟨a, b, q, h1, h2, _⟩ := hrow k hk; simp only [q]; exact ⟨by simpa using h1, by simpa using h2⟩) ha0 (fun k hk => by obtain ⟨a, b, q, h1, h2, h3, _⟩ := hrow k hk; rw [hc k hk, ← h3])
    (fun k hk => by obtain ⟨a, b, q, h1, h2, h3, h4, h5⟩ := hrow k hk; simp only [q]; simpa using h4) (fun k hk => by obtain ⟨a, b, q, h1, h2, h3, h4, h5⟩ := hrow k hk; simp only [q]; simpa using h5) e b h1 h3 h4

theorem count_lead (m : Nat) : ∀ k n, m < 2 ^ n → (bitsL (n + k) m).count true = (bitsL n m).count true
  | 0, n, _ => rfl
  | k + 1, n, h => by
    have hlt : m < 2 ^ (n + k) := Nat.lt_of_lt_of_le h (Nat.pow_le_pow_right (by omega) (by omega))
    rw [← Nat.add_assoc, bitsL, Nat.div_eq_of_lt hlt, ← count_lead m k n h]
    simp

theorem count_12 (m n : Nat) (h : m < 2 ^ n) (hn : n ≤ 12) : (bitsL 12 m).count true = (bitsL n m).count true := by
  have := count_lead m (12 - n) n h
  rwa [show n + (12 - n) = 12 by omega] at this

theorem last_mask : ∀ n : Fin 12, (bitsL (n.1 + 1) (2 ^ (n.1 + 1) - 2)).count true = n.1 ∧ idxM (n.1 + 1) 0 (2 ^ (n.1 + 1) - 2) = List.range n.1 := by decide +kernel

/-- All chords but the last one. -/
theorem free_last (xs : List (Int × Int)) : freeP xs (List.range (xs.length - 1)) = true :=
  free_yes fun k hk => by
    obtain ⟨a, b, e, h1, h2⟩ := pair_at xs k hk
    rw [e]
    unfold hitP
    rw [List.getD_cons_zero, mem_mapI]
    have : (List.range (xs.length - 1)).contains a = true := by rw [List.contains_iff_mem, List.mem_range]; omega
    rw [this]
    rfl

/-- How many chords at least, and the mask. -/
theorem fewest (xs : List (Int × Int)) (h0 : 0 < xs.length) (hn : xs.length ≤ 12) :
    ∃ s m, s < xs.length ∧ firstD (takesM (freeP xs) xs.length 0 s []) (2 ^ xs.length) = some m ∧ ∀ t, t < s → firstD (takesM (freeP xs) xs.length 0 t []) (2 ^ xs.length) = none := by
  rcases first_fail (fun t => (firstD (takesM (freeP xs) xs.length 0 t []) (2 ^ xs.length)).isNone) xs.length with h | ⟨s, h1, h2, h3⟩
  · exfalso
    have h1 := h (xs.length - 1) (by omega)
    rw [Option.isNone_iff_eq_none] at h1
    obtain ⟨q1, q2⟩ := last_mask ⟨xs.length - 1, by omega⟩
    simp only [show xs.length - 1 + 1 = xs.length by omega] at q1 q2
    have hp : 0 < 2 ^ xs.length := Nat.two_pow_pos _
    have := firstD_none h1 (2 ^ xs.length - 2) (by omega)
    unfold takesM at this
    rw [q1, q2, List.nil_append, free_last] at this
    simp at this
  · cases hf : firstD (takesM (freeP xs) xs.length 0 s []) (2 ^ xs.length) with
    | none => simp [hf] at h2
    | some m => exact ⟨s, m, h1, hf, fun t ht => Option.isNone_iff_eq_none.1 (h3 t ht)⟩

theorem fewest_pick (xs : List (Int × Int)) (s : Nat) : (firstD (takesM (freeP xs) xs.length 0 s []) (2 ^ xs.length)).map (fun r => idxM xs.length 0 r) = pickT (freeP xs) xs.length 0 s [] := by
  have := pick_first (freeP xs) xs.length 0 s []
  simpa using this

end Go.Proofs.Ytpcebcgmbngabab
