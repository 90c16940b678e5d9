/- Fewest chords to drop: the model's search goes on; the law. -/
import Derived.Test.YtpcebcgmbngababFZ
import Derived.Test.YtpcebcgmbngababFF
namespace Go.Proofs.Ytpcebcgmbngabab
open Go.RowKit
set_option linter.unusedVariables false

/-- What is asked of the search from index k on. -/
def DropsC (u : Value) (xs : List (Int × Int)) (B T f : Nat) : Prop :=
  ∀ (k more Bd : Nat) (d : List Nat) (dv : Value) (w : World), xs.length < f + k → k ≤ xs.length → d.length ≤ k → more ≤ 12 → PairsIn 96 w B T u xs → T ≤ w.heap.size → Bd ≤ w.heap.size → Ints w Bd 3 dv (mapI d) →
    Calls Try.prog 71 #[u, dv, .int .i64 (k : Int), .int .i64 (more : Int)] w (SaysD w Bd (pickT (freeP xs) (xs.length - k) k more d))

set_option maxHeartbeats 4000000 in
theorem cdDrops_more (u : Value) (xs : List (Int × Int)) (B T f : Nat) (h12 : xs.length ≤ 12) (hrec : DropsC u xs B T f)
    (k0 more Bd : Nat) (d : List Nat) (dv : Value) (w : World) (hf : xs.length < (f + 1) + k0) (hk0 : k0 ≤ xs.length) (hd : d.length ≤ k0) (hm : more + 1 ≤ 12) (h : PairsIn 96 w B T u xs) (hT : T ≤ w.heap.size) (hBd : Bd ≤ w.heap.size) (hI : Ints w Bd 3 dv (mapI d)) :
    Calls Try.prog 71 #[u, dv, .int .i64 (k0 : Int), .int .i64 ((more + 1 : Nat) : Int)] w (SaysD w Bd (pickT (freeP xs) (xs.length - k0) k0 (more + 1) d)) := by
  have HU := Lib.hid h
  have HI := Lib.hid hI
  have hml : (mapI d).length ≤ 12 := by unfold mapI; simp; omega
  have HREC := Lib.hid (fun (k : Nat) (hk : k0 ≤ k) (hkn : k < xs.length) (dv' : Value) (Bd' : Nat) (W : World) (a : PairsIn 96 W B T u xs) (b : T ≤ W.heap.size) (c : Bd' ≤ W.heap.size) (i : Ints W Bd' 3 dv' (mapI (d ++ [k]))) => hrec (k + 1) more Bd' (d ++ [k]) dv' W (by omega) (by omega) (by simp; omega) (by omega) a b c i)
  have HPK := Lib.hid (fun (k : Nat) (hkn : k < xs.length) => show pickT (freeP xs) (xs.length - k) k (more + 1) d = match pickT (freeP xs) (xs.length - (k + 1)) (k + 1) more (d ++ [k]) with | some x => some x | none => pickT (freeP xs) (xs.length - (k + 1)) (k + 1) (more + 1) d from by
    obtain ⟨t, ht⟩ : ∃ t, xs.length - k = t + 1 := ⟨xs.length - k - 1, by omega⟩
    rw [ht, show xs.length - (k + 1) = t by omega, pickT, if_neg (Nat.succ_ne_zero more), Nat.add_sub_cancel]
    cases pickT (freeP xs) t (k + 1) more (d ++ [k]) <;> rfl)
  have HPN := Lib.hid (show pickT (freeP xs) (xs.length - xs.length) xs.length (more + 1) d = none from by rw [Nat.sub_self, pickT]; simp)
  have HMP := Lib.hid (fun (k : Nat) => show mapI d ++ [(k : Int)] = mapI (d ++ [k]) from by unfold mapI; simp)
  obtain ⟨a1, c1, g1, rfl, _⟩ := h.pairs.view
  obtain ⟨R, hR⟩ : ∃ R, pickT (freeP xs) (xs.length - k0) k0 (more + 1) d = R := ⟨_, rfl⟩
  have HR := Lib.hid hR
  rw [hR]
  have hne : (((more + 1 : Nat) : Int) == 0) = false := beq_eq_false_iff_ne.2 (by omega)
  have hwm : IntKind.i64.wrap (((more + 1 : Nat) : Int) - 1) = (more : Int) := by rw [IntKind.wrap_i64]; omega
  obtain ⟨mi, hmi⟩ : ∃ mi, ((more + 1 : Nat) : Int) = mi := ⟨_, rfl⟩
  rw [hmi] at hne hwm ⊢
  clear h hI hrec hR hmi
  go_enter Try.func71, Try.ntmps71
  go_wp2
  go_loopw [12] (fun i wr => ∃ k : Nat, k0 ≤ k ∧ k ≤ xs.length ∧ i = .int .i64 k ∧ Hid (pickT (freeP xs) (xs.length - k) k (more + 1) d = R) ∧ Below w.heap.size w wr) (fun i _ => xs.length - (intOf i).toNat)
  case atStart => exact ⟨k0, by omega, hk0, rfl, HR, Below.refl _ _⟩
  case round =>
    obtain ⟨k, hk, hkn, rfl, HK, hB⟩ := hrel
    have hz := hB.size
    by_cases hlt : k < xs.length
    · have HUr := Lib.hid (HU.out.keep (belowSame hB hT))
      have HIr := Lib.hid (HI.out.later hB)
      have hpk := HPK.out k hlt
      rw [HK.out] at hpk
      have hwk : IntKind.i64.wrap ((k : Int) + 1) = ((k + 1 : Nat) : Int) := by rw [IntKind.wrap_i64]; omega
      obtain ⟨ki, hki⟩ : ∃ ki, ((k + 1 : Nat) : Int) = ki := ⟨_, rfl⟩
      have HRC := Lib.hid (HREC.out k hk hlt)
      obtain ⟨r, hr⟩ : ∃ r, pickT (freeP xs) (xs.length - (k + 1)) (k + 1) more (d ++ [k]) = r := ⟨_, rfl⟩
      rw [hr] at hpk HRC
      rw [hki] at hwk HRC
      have HKI := Lib.hid hki
      have k1 : (k : Int) < (xs.length : Int) := by omega
      clear hr hki
      cases r with
      | some x =>
        simp only at hpk
        subst hpk
        go_wp2_with (first
          | (go_at_call 101; (with_reducible refine (l1OwnE_any dv (mapI d) Bd _ HIr.out (by omega)).mono ?_); rintro e w2 ⟨v2, rfl, hI2, hb2⟩; have HI2 := Lib.hid hI2; have hB2 := hB.trans (hb2.mono hz); have hz2 := hB2.size; have hz2' := hb2.size; clear hI2)
          | (at_builtin; refine wpList_append_int rfl _ _ 39 rfl (wr.heap.size) 3 Try.underlying39 info_int _ _ rfl HI2.out (k : Int) rfl (by omega) (by omega) ?_; intro v3 w3 hI3 hg3; rw [HMP.out k] at hI3; have HI3 := Lib.hid hI3; have hb3 := HI2.out.below hb2 hz2' hg3; have hB3 := hB.trans (hb3.mono hz); have hz3 := hB3.size; have hz3' := hb3.size; have HU3 := Lib.hid (HU.out.keep (belowSame hB3 hT)); clear hI3 hg3)
          | (go_at_call 71; (with_reducible refine (HRC.out v3 wr.heap.size _ HU3.out (by omega) (by omega) HI3.out).mono ?_); rintro e w4 ⟨v4, rfl, hx4, hb4⟩; have hB4 := hB3.trans (hb4.mono hz3)))
        go_ret2
        exact ⟨_, rfl, fun y hy => (hx4 y hy).mono (by omega), hB4⟩
      | none =>
        simp only at hpk
        have HPK2 := Lib.hid hpk.symm
        clear hpk
        go_wp2_with (first
          | (go_at_call 101; (with_reducible refine (l1OwnE_any dv (mapI d) Bd _ HIr.out (by omega)).mono ?_); rintro e w2 ⟨v2, rfl, hI2, hb2⟩; have HI2 := Lib.hid hI2; have hB2 := hB.trans (hb2.mono hz); have hz2 := hB2.size; have hz2' := hb2.size; clear hI2)
          | (at_builtin; refine wpList_append_int rfl _ _ 39 rfl (wr.heap.size) 3 Try.underlying39 info_int _ _ rfl HI2.out (k : Int) rfl (by omega) (by omega) ?_; intro v3 w3 hI3 hg3; rw [HMP.out k] at hI3; have HI3 := Lib.hid hI3; have hb3 := HI2.out.below hb2 hz2' hg3; have hB3 := hB.trans (hb3.mono hz); have hz3 := hB3.size; have hz3' := hb3.size; have HU3 := Lib.hid (HU.out.keep (belowSame hB3 hT)); clear hI3 hg3)
          | (go_at_call 71; (with_reducible refine (HRC.out v3 wr.heap.size _ HU3.out (by omega) (by omega) HI3.out).mono ?_); rintro e w4 ⟨v4, rfl, hx4, hb4⟩; have hB4 := hB3.trans (hb4.mono hz3)))
        go_roundw
        case rel => exact ⟨k + 1, by omega, by omega, by rw [HKI.out], HPK2, hB4⟩
        case measure => have := HKI.out; simp [intOf]; omega
    · obtain rfl : k = xs.length := by omega
      have hRn := HPN.out
      rw [HK.out] at hRn
      subst hRn
      go_wp2
      go_ret2
      exact ⟨_, rfl, fun x hx => (by cases hx), hB⟩

theorem cdDrops_any (u : Value) (xs : List (Int × Int)) (B T : Nat) (h12 : xs.length ≤ 12) (ho : ∀ k, k < xs.length → (xs.getD k (0, 0)).1 < (xs.getD k (0, 0)).2) : ∀ f, DropsC u xs B T f
  | 0 => fun k more Bd d dv w hf hk => by omega
  | f + 1 => fun k more Bd d dv w hf hk hd hm h hT hBd hI => by
    cases more with
    | zero =>
      rw [pick_zero]
      exact cdDrops_none u dv xs B T Bd w h hT ho h12 d (by omega) hI k
    | succ more => exact cdDrops_more u xs B T f h12 (cdDrops_any u xs B T h12 ho f) k more Bd d dv w hf hk hd hm h hT hBd hI

theorem fewest_all (xs : List (Int × Int)) (hn : xs.length ≤ 12) :
    ∃ s m, s ≤ xs.length ∧ (s < xs.length ∨ xs.length = 0) ∧ firstD (takesM (freeP xs) xs.length 0 s []) (2 ^ xs.length) = some m ∧ ∀ t, t < s → firstD (takesM (freeP xs) xs.length 0 t []) (2 ^ xs.length) = none := by
  cases xs with
  | nil => exact ⟨0, 0, Nat.le_refl _, .inr rfl, rfl, fun t ht => by omega⟩
  | cons x l =>
    obtain ⟨s, m, h1, h2, h3⟩ := fewest (x :: l) (by simp) hn
    exact ⟨s, m, by omega, .inl h1, h2, h3⟩

set_option maxHeartbeats 2000000 in
theorem sFewest_yes (p : Int) (u : Value) (xs : List (Int × Int)) (B T : Nat) (w : World) (h : PairsIn 96 w B T u xs) (hT : T ≤ w.heap.size) (hg : goodC p xs) (h12 : xs.length ≤ 12) (s m : Nat) (hs : s < xs.length ∨ xs.length = 0) (hm : firstD (takesM (freeP xs) xs.length 0 s []) (2 ^ xs.length) = some m) (hno : ∀ t, t < s → firstD (takesM (freeP xs) xs.length 0 t []) (2 ^ xs.length) = none) :
    Calls Try.prog 42 #[.int .i64 p, u] w (Gives (IntsIn 3) w (heldL m xs.length xs.length) true) := by
  have HU := Lib.hid h
  have HG := Lib.hid hg
  have HP := Lib.hid (show pickT (freeP xs) xs.length 0 s [] = some (idxM xs.length 0 m) from by rw [← fewest_pick, hm]; rfl)
  have HN := Lib.hid (fun t ht => show pickT (freeP xs) xs.length 0 t [] = none from by rw [← fewest_pick, hno t ht]; rfl)
  have HD := Lib.hid (fun (j : Nat) (hj : j ≤ 12) (W : World) (a : PairsIn 96 W B T u xs) (b : T ≤ W.heap.size) (c : w.heap.size ≤ W.heap.size) => show Calls Try.prog 71 #[u, .slice none 0 0, .int .i64 0, .int .i64 (j : Int)] W (SaysD W w.heap.size (pickT (freeP xs) xs.length 0 j [])) from
    cdDrops_any u xs B T h12 (chord_order hg) (xs.length + 1) 0 j w.heap.size [] (.slice none 0 0) W (by omega) (by omega) (by simp) hj a b c (World.ownsRow_nil _ _ _ _))
  rw [heldL_all]
  obtain ⟨a1, c1, g1, rfl, _⟩ := h.pairs.view
  have hgt : ¬ (12 : Int) < (xs.length : Int) := by omega
  clear hm hno
  go_enter Try.func42, Try.ntmps42
  go_wp2_with (first
    | (go_at_call 70; (with_reducible refine (cdGood_yes p _ xs B T _ HU.out HG.out).mono ?_); rintro e w1 ⟨rfl, hb1⟩; have hz1 := hb1.size))
  go_loopw [6] (fun i wr => ∃ j : Nat, (j ≤ s ∨ xs.length = 0 ∧ j = 0) ∧ i = .int .i64 j ∧ Below w.heap.size w wr) (fun i _ => xs.length - (intOf i).toNat)
  case atStart => exact ⟨0, by omega, rfl, hb1⟩
  case round =>
    obtain ⟨j, hj, rfl, hB⟩ := hrel
    have hz := hB.size
    by_cases hlt : j < xs.length
    · have HUr := Lib.hid (HU.out.keep (belowSame hB hT))
      have j1 : (j : Int) < (xs.length : Int) := by omega
      have HDJ := Lib.hid (HD.out j (by omega) wr HUr.out (by omega) hz)
      by_cases hjs : j < s
      · rw [HN.out j hjs] at HDJ
        go_wp2_with (first | (go_at_call 71; (with_reducible refine (HDJ.out).mono ?_); rintro e w2 ⟨v2, rfl, _, hb2⟩; have hB2 := hB.trans (hb2.mono hz)))
        go_roundw
        case rel => exact ⟨j + 1, by omega, by go_num, hB2⟩
        case measure => simp [intOf]; omega
      · obtain rfl : j = s := by omega
        rw [HP.out] at HDJ
        go_wp2_with (first | (go_at_call 71; (with_reducible refine (HDJ.out).mono ?_); rintro e w2 ⟨v2, rfl, hx, hb2⟩; have hB2 := hB.trans (hb2.mono hz)))
        go_ret2
        have hI := hx _ rfl
        exact ⟨_, rfl, ⟨hI, fun b hb => (hI.own b hb).2⟩, hB2⟩
    · have h0 : xs.length = 0 := by omega
      go_wp2
      go_ret2
      exact ⟨_, rfl, by rw [h0]; exact IntsIn.nil _ _ _ _, hB⟩

theorem sFewest_no (p : Int) (u : Value) (xs : List (Int × Int)) (B T : Nat) (w : World) (h : PairsIn 96 w B T u xs) (hT : T ≤ w.heap.size) (hg : ¬ (goodC p xs ∧ xs.length ≤ 12)) :
    Calls Try.prog 42 #[.int .i64 p, u] w (Gives (IntsIn 3) w [] false) := by
  have HU := Lib.hid h
  obtain ⟨a1, c1, g1, rfl, _⟩ := h.pairs.view
  by_cases h1 : goodC p xs
  · have HG := Lib.hid h1
    have h12 : ¬ xs.length ≤ 12 := fun e => hg ⟨h1, e⟩
    have hgt : (12 : Int) < (xs.length : Int) := by omega
    clear h hg h1
    go_enter Try.func42, Try.ntmps42
    go_wp2_with (first | (go_at_call 70; (with_reducible refine (cdGood_yes p _ xs B T _ HU.out HG.out).mono ?_); rintro e w1 ⟨rfl, hb1⟩))
    go_ret2
    exact ⟨_, rfl, IntsIn.nil _ _ _ _, hb1⟩
  · have HG := Lib.hid h1
    clear h hg h1
    go_enter Try.func42, Try.ntmps42
    go_wp2_with (first | (go_at_call 70; (with_reducible refine (cdGood_no p _ xs B T _ HU.out HG.out).mono ?_); rintro e w1 ⟨rfl, hb1⟩))
    go_ret2
    exact ⟨_, rfl, IntsIn.nil _ _ _ _, hb1⟩

end Go.Proofs.Ytpcebcgmbngabab
