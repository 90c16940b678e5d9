/- Trains: whether wheels are in gear, by the model; the law. -/
import Derived.Test.YtnnhjnogebicbabH7
namespace Go.Proofs.Ytnnhjnogebicbab
open Go.RowKit
set_option linter.unusedVariables false

set_option maxHeartbeats 400000 in
theorem sAreInGear_no (v u : Value) (xs ys : List Int) (w : World) (h : ArgI w v xs) (h2 : ArgI w u ys) (hm : xs.length ≤ 1048576) (hm2 : ys.length ≤ 1048576) (ht : ¬ (Train xs ∧ TeethOf xs ys)) :
    Calls Try.prog 22 #[v, u] w fun e w' => e = .returned (.tuple #[.bool false, .bool false]) ∧ Below w.heap.size w w' := by
  have H := Lib.hid h
  have h' := h
  have h2' := h2
  obtain ⟨a0, cap, a, rfl, ha, hxm, hc⟩ := h'
  obtain ⟨b0, bcap, b, rfl, hbb, hbm, hbc⟩ := h2'
  clear h h2
  by_cases h1 : Train xs
  · have six := h1.1.2
    have two := h1.two
    have HTR := Lib.hid h1
    by_cases hl : ys.length = xs.length
    · obtain ⟨j, hj, hb, hg⟩ := not_all (fun g => ht ⟨h1, hl, g⟩)
      rw [hl] at hbb hbm hbc hm2 ⊢
      obtain rfl := ha (by omega)
      obtain rfl := hbb (by omega)
      have HC := Lib.hid hc
      have HBC := Lib.hid hbc
      have HY := Lib.hid hg
      clear ht hl hc hbc hg ha hbb h1
      go_enter Try.func22, Try.ntmps22
      go_wp2_with (first | (go_at_call 32; (with_reducible refine (geTrain_yes _ _ _ H.out HTR.out).mono ?_); rintro e w1 ⟨rfl, rfl⟩))
      go_loop [24] (fun i => ∃ k : Nat, k ≤ j ∧ i = .int .i64 k) (fun i => xs.length - (intOf i).toNat)
      case atStart => exact ⟨0, by omega, rfl⟩
      case round =>
        obtain ⟨k, hk, rfl⟩ := hrel
        by_cases hlt : k < j
        · have c1 := HC.out k (by omega)
          have c2 := HBC.out k (by omega)
          have c3 := HY.out k hlt
          have c4 := HTR.out.2 k (by omega)
          obtain ⟨x, hx⟩ : ∃ x, xs.getD k 0 = x := ⟨_, rfl⟩
          obtain ⟨y, hy⟩ : ∃ y, ys.getD k 0 = y := ⟨_, rfl⟩
          rw [hx] at c1 c3 c4
          rw [hy] at c2 c3
          obtain ⟨x1, x2⟩ := c4
          clear hx hy
          go_wp2_with (first | (go_at_call 33; (with_reducible refine (l1In_yes _ _ _ _ (by omega)).mono ?_); rintro e w1 ⟨rfl, rfl⟩))
          go_round
          case rel => exact ⟨k + 1, by omega, by go_num⟩
          case measure => simp [intOf]; omega
        · obtain rfl : k = j := by omega
          have c1 := HC.out k hj
          have c2 := HBC.out k hj
          have c4 := HTR.out.2 k (by omega)
          obtain ⟨x, hx⟩ : ∃ x, xs.getD k 0 = x := ⟨_, rfl⟩
          obtain ⟨y, hy⟩ : ∃ y, ys.getD k 0 = y := ⟨_, rfl⟩
          rw [hx] at c1 hb c4
          rw [hy] at c2 hb
          have hb2 : ¬ (0 ≤ y ∧ y ≤ x - 1) := fun g => hb (by omega)
          obtain ⟨x1, x2⟩ := c4
          clear hx hy hb
          go_wp2_with (first | (go_at_call 33; (with_reducible refine (l1In_no _ _ _ _ hb2).mono ?_); rintro e w1 ⟨rfl, rfl⟩))
          go_ret2
          exact ⟨rfl, Below.refl _ _⟩
    · have hne : ((ys.length : Int) != (xs.length : Int)) = true := bne_iff_ne.2 (by omega)
      clear ht hc hbc ha hbb h1
      go_enter Try.func22, Try.ntmps22
      go_wp2_with (first | (go_at_call 32; (with_reducible refine (geTrain_yes _ _ _ H.out HTR.out).mono ?_); rintro e w1 ⟨rfl, rfl⟩))
      go_ret2
      exact ⟨rfl, Below.refl _ _⟩
  · clear ht hc hbc ha hbb
    go_enter Try.func22, Try.ntmps22
    go_wp2_with (first | (go_at_call 32; (with_reducible refine (geTrain_no _ _ _ H.out h1 hm).mono ?_); rintro e w1 ⟨rfl, rfl⟩))
    go_ret2
    exact ⟨rfl, Below.refl _ _⟩

theorem quietB {P : Program} {f : FuncId} {args : Array Value} {w : World} {q n : Nat} {v : Value}
    (h : Calls P f args (w.drewN (q + n)) fun e w' => e = .returned v ∧ ∃ m, w' = (w.drewN (q + n)).drewN m) : Calls P f args (w.drewN (q + n)) fun e w'' => e = .returned v ∧ ∃ m, w'' = w.drewN (q + m) :=
  h.mono fun _ _ ⟨he, m, hm⟩ => ⟨he, n + m, by rw [hm, World.drewN_drewN, Nat.add_assoc]⟩

/-- One pair of wheels, in letters. -/
theorem pair_round {xs ys : List Int} (hw : Wheels xs) (hy : TeethOf xs ys) (i k : Nat) (hi : i < xs.length) (hk : k < i) :
    ∃ (p q a b D r : Int) (s t g : Nat), ys.getD i 0 = p ∧ ys.getD k 0 = q ∧ 0 ≤ p ∧ p < 300 ∧ 0 ≤ q ∧ q < 300 ∧ xs.getD i 0 = (s : Int) ∧ xs.getD k 0 = (t : Int) ∧ 1 ≤ s ∧ s ≤ 300 ∧ 1 ≤ t ∧ t ≤ 300 ∧ Nat.gcd s t = g ∧ 1 ≤ g ∧
      ((if i % 2 = 1 then -p else p) = a) ∧ ((if k % 2 = 1 then -q else q) = b) ∧ a - b = D ∧ D.tmod (g : Int) = r ∧ (-300 < a ∧ a < 300) ∧ (-300 < b ∧ b < 300) ∧ (-300 < r ∧ r < 300) ∧ g ≤ 300 ∧
      (r = 0 ↔ ((Nat.gcd (tn xs i) (tn xs k) : Nat) : Int) ∣ cT ys i - cT ys k) := by
  have h1 := hw.tn hi
  have h2 := hw.tn (i := k) (by omega)
  have y1 := hy.2 i hi
  have y2 := hy.2 k (by omega)
  have g1 : 1 ≤ Nat.gcd (tn xs i) (tn xs k) := Nat.gcd_pos_of_pos_left _ (by omega)
  have g2 : Nat.gcd (tn xs i) (tn xs k) ≤ tn xs i := Nat.gcd_le_left _ (by omega)
  have e1 : cT ys i = if i % 2 = 1 then -ys.getD i 0 else ys.getD i 0 := by
    unfold cT sgn
    split
    · rw [Int.neg_mul, Int.one_mul]
    · rw [Int.one_mul]
  have e2 : cT ys k = if k % 2 = 1 then -ys.getD k 0 else ys.getD k 0 := by
    unfold cT sgn
    split
    · rw [Int.neg_mul, Int.one_mul]
    · rw [Int.one_mul]
  have a1 : -300 < cT ys i ∧ cT ys i < 300 := by rw [e1]; split <;> omega
  have a2 : -300 < cT ys k ∧ cT ys k < 300 := by rw [e2]; split <;> omega
  have r1 := Int.tmod_lt_of_pos (cT ys i - cT ys k) (show 0 < ((Nat.gcd (tn xs i) (tn xs k) : Nat) : Int) by omega)
  have r2 := Int.lt_tmod_of_pos (cT ys i - cT ys k) (show 0 < ((Nat.gcd (tn xs i) (tn xs k) : Nat) : Int) by omega)
  exact ⟨_, _, cT ys i, cT ys k, _, _, tn xs i, tn xs k, _, rfl, rfl, by omega, by omega, by omega, by omega, h1.1.symm, h2.1.symm, h1.2.1, h1.2.2, h2.2.1, h2.2.2, rfl, g1, e1.symm, e2.symm, rfl, rfl, a1, a2, by omega, by omega, (Int.dvd_iff_tmod_eq_zero).symm⟩

set_option maxHeartbeats 2000000 in
theorem sAreInGear_yes (v u : Value) (xs ys : List Int) (B1 T1 B2 T2 : Nat) (b : Bool) (w : World) (h : IntsIn 3 w B1 T1 v xs) (h2 : IntsIn 3 w B2 T2 u ys) (ht : Train xs) (hy : TeethOf xs ys) (hb : b = true ↔ Agree xs ys) :
    Calls Try.prog 22 #[v, u] w fun e w' => e = .returned (.tuple #[.bool b, .bool true]) ∧ Below w.heap.size w w' := by
  have two := ht.two
  have six := ht.1.2
  obtain ⟨g1, cap, rfl, hcap, hcm⟩ := h.lit (by omega)
  obtain ⟨g2, cap2, rfl, hcap2, hcm2⟩ := h2.lit (by have := hy.1; omega)
  have H := Lib.hid h.arg
  have HTR := Lib.hid ht
  have HY := Lib.hid hy.2
  have HR := Lib.hid (fun i k hi hk => pair_round ht.wheels hy i k hi hk)
  have HB := Lib.hid hb
  have HC : Hid (∀ i, i < xs.length → w.cell? ⟨g1, i, none⟩ = some (.int .i64 (xs.getD i 0))) := Lib.hid (fun i hi => h.1.cellAt i hi)
  have HD : Hid (∀ i, i < xs.length → w.cell? ⟨g2, i, none⟩ = some (.int .i64 (ys.getD i 0))) := Lib.hid (fun i hi => h2.1.cellAt i (by rw [hy.1]; exact hi))
  rw [hy.1] at hcap2 ⊢
  obtain ⟨n, hn⟩ : ∃ n, xs.length = n := ⟨_, rfl⟩
  have HN := Lib.hid hn
  rw [hn] at two six hcap hcap2 H HC HD HY HR ⊢
  unfold maxLen at hcm hcm2
  clear h h2 ht hy hb hn
  go_enter Try.func22, Try.ntmps22
  go_wp2_with (first | (go_at_call 32; (with_reducible refine (geTrain_yes _ _ _ H.out HTR.out).mono ?_); rintro e w1 ⟨rfl, rfl⟩))
  go_loop [24] (fun i => ∃ k : Nat, k ≤ n ∧ i = .int .i64 k) (fun i => n - (intOf i).toNat)
  case atStart => exact ⟨0, by omega, rfl⟩
  case round =>
    obtain ⟨k, hk, rfl⟩ := hrel
    by_cases hlt : k < n
    · have c1 := HC.out k hlt
      have c2 := HD.out k hlt
      have c3 := HY.out k hlt
      have c4 := HTR.out.2 k (by rw [HN.out]; exact hlt)
      obtain ⟨x, hx⟩ : ∃ x, xs.getD k 0 = x := ⟨_, rfl⟩
      obtain ⟨y, hyy⟩ : ∃ y, ys.getD k 0 = y := ⟨_, rfl⟩
      rw [hx] at c1 c3 c4
      rw [hyy] at c2 c3
      obtain ⟨x1, x2⟩ := c4
      clear hx hyy
      go_wp2_with (first | (go_at_call 33; (with_reducible refine (l1In_yes _ _ _ _ (by omega)).mono ?_); rintro e w1 ⟨rfl, rfl⟩))
      go_round
      case rel => exact ⟨k + 1, by omega, by go_num⟩
      case measure => simp [intOf]; omega
    · obtain rfl : k = n := by omega
      go_wp2
      go_loopw [40] (fun i wr => ∃ j : Nat, j ≤ k ∧ i = .int .i64 j ∧ Hid (∀ i, i < j → ∀ q, q < i → ((Nat.gcd (tn xs i) (tn xs q) : Nat) : Int) ∣ cT ys i - cT ys q) ∧ Below w.heap.size w wr) (fun i _ => k - (intOf i).toNat)
      case atStart => exact ⟨0, by omega, rfl, Lib.hid (fun i hi => by omega), Below.refl _ _⟩
      case round =>
        obtain ⟨j, hj, rfl, HA, hB⟩ := hrel
        obtain ⟨wo, hwo⟩ : ∃ z, z = wr := ⟨wr, rfl⟩
        subst hwo
        by_cases hlj : j < k
        · have jc : (j : Int) ≤ cap := by omega
          go_wp2
          go_loopw [47] (fun q wr => ∃ m : Nat, m ≤ j ∧ q = .int .i64 m ∧ Hid (∀ q, q < m → ((Nat.gcd (tn xs j) (tn xs q) : Nat) : Int) ∣ cT ys j - cT ys q) ∧ Below w.heap.size w wr) (fun i _ => j - (intOf i).toNat)
          case atStart => exact ⟨0, by omega, rfl, Lib.hid (fun i hi => by omega), by first | exact hB | exact bdn hB _⟩
          case round =>
            obtain ⟨m, hm, rfl, HM, hB2⟩ := hrel
            by_cases hlm : m < j
            · obtain ⟨p, q, a, b', D, r, s, t, g, e1, e2, p1, p2, q1, q2, e3, e4, s1, s2, t1, t2, e5, g3, ea, eb, eD, er, ba, bb, br, g4, hdv⟩ := HR.out j m (by omega) hlm
              have c1 := (hB2.cell (World.block_lt_of_cell? w _ (HD.out j (by omega)))).trans (HD.out j (by omega))
              have c2 := (hB2.cell (World.block_lt_of_cell? w _ (HD.out m (by omega)))).trans (HD.out m (by omega))
              have c3 := (hB2.cell (World.block_lt_of_cell? w _ (HC.out j (by omega)))).trans (HC.out j (by omega))
              have c4 := (hB2.cell (World.block_lt_of_cell? w _ (HC.out m (by omega)))).trans (HC.out m (by omega))
              rw [e1] at c1
              rw [e2] at c2
              rw [e3] at c3
              rw [e4] at c4
              have HG := Lib.hid e5
              have HDV := Lib.hid hdv
              have hq1 : ∀ W, Calls Try.prog 34 #[.int .i64 s, .int .i64 t] W fun e w' => e = .returned (.int .i64 g) ∧ ∃ q, w' = W.drewN q := fun W => by have hq := srCommon_q s t W (by omega) (by omega); rw [HG.out] at hq; exact hq
              have Q1 := Lib.hid (fun (q k : Nat) => quietB (w := wr) (q := q) (n := k) (hq1 (wr.drewN (q + k))))
              clear hq1
              have g0 : ¬ g = 0 := by omega
              have rw1 : IntKind.i64.wrap r = r := by rw [IntKind.wrap_i64]; omega
              have jc : (0 : Int) ≤ (j : Int) := by omega
              have jk : (j : Int) < (k : Int) := by omega
              have mc : (0 : Int) ≤ (m : Int) := by omega
              have mk : (m : Int) < (k : Int) := by omega
              clear e1 e2 e3 e4 e5 hdv
              rcases Nat.mod_two_eq_zero_or_one j with hpj | hpj <;> rcases Nat.mod_two_eq_zero_or_one m with hpm | hpm
              · rw [hpj] at ea
                rw [hpm] at eb
                simp at ea eb
                subst ea eb
                have pj : ((j : Int) % 2 == 1) = false := by rw [beq_eq_false_iff_ne]; omega
                have pm : ((m : Int) % 2 == 1) = false := by rw [beq_eq_false_iff_ne]; omega
                have wD : IntKind.i64.wrap (p - q) = D := by rw [IntKind.wrap_i64]; omega
                clear eD hpj hpm
                by_cases hr0 : r = 0
                · have rn : (r != 0) = false := by rw [hr0]; rfl
                  have HMN := Lib.hid (show ∀ z, z < m + 1 → ((Nat.gcd (tn xs j) (tn xs z) : Nat) : Int) ∣ cT ys j - cT ys z from fun z hz => by
                    rcases Nat.lt_or_ge z m with h1 | h1
                    · exact HM.out z h1
                    · obtain rfl : z = m := by omega
                      exact HDV.out.1 hr0)
                  clear hr0
                  go_wp2
                  go_quiet (fail)
                  go_wp2
                  go_quiet ((go_at_call 34; (with_reducible exact Q1.out _ _)))
                  go_wp2
                  go_roundw
                  case rel => exact ⟨m + 1, by omega, by go_num, HMN, by first | exact bdn (bdn hB2 _) _ | exact bdn hB2 _⟩
                  case measure => simp [intOf]; omega
                · have rn : (r != 0) = true := bne_iff_ne.2 hr0
                  have hbf : b = false := by
                    cases hbv : b with
                    | false => rfl
                    | true => exact absurd (HDV.out.2 (HB.out.1 hbv j (by rw [HN.out]; exact hlj) m hlm)) hr0
                  subst hbf
                  clear hr0
                  go_wp2
                  go_quiet (fail)
                  go_wp2
                  go_quiet ((go_at_call 34; (with_reducible exact Q1.out _ _)))
                  go_wp2
                  go_ret2
                  exact ⟨rfl, by first | exact bdn (bdn hB2 _) _ | exact bdn hB2 _⟩
              · rw [hpj] at ea
                rw [hpm] at eb
                simp at ea eb
                subst ea eb
                have pj : ((j : Int) % 2 == 1) = false := by rw [beq_eq_false_iff_ne]; omega
                have pm : ((m : Int) % 2 == 1) = true := by rw [beq_iff_eq]; omega
                have wq : IntKind.i64.wrap (-q) = -q := by rw [IntKind.wrap_i64]; omega
                have wD : IntKind.i64.wrap (p + q) = D := by rw [IntKind.wrap_i64]; omega
                clear eD hpj hpm
                by_cases hr0 : r = 0
                · have rn : (r != 0) = false := by rw [hr0]; rfl
                  have HMN := Lib.hid (show ∀ z, z < m + 1 → ((Nat.gcd (tn xs j) (tn xs z) : Nat) : Int) ∣ cT ys j - cT ys z from fun z hz => by
                    rcases Nat.lt_or_ge z m with h1 | h1
                    · exact HM.out z h1
                    · obtain rfl : z = m := by omega
                      exact HDV.out.1 hr0)
                  clear hr0
                  go_wp2
                  go_quiet (fail)
                  go_wp2
                  go_quiet ((go_at_call 34; (with_reducible exact Q1.out _ _)))
                  go_wp2
                  go_roundw
                  case rel => exact ⟨m + 1, by omega, by go_num, HMN, by first | exact bdn (bdn hB2 _) _ | exact bdn hB2 _⟩
                  case measure => simp [intOf]; omega
                · have rn : (r != 0) = true := bne_iff_ne.2 hr0
                  have hbf : b = false := by
                    cases hbv : b with
                    | false => rfl
                    | true => exact absurd (HDV.out.2 (HB.out.1 hbv j (by rw [HN.out]; exact hlj) m hlm)) hr0
                  subst hbf
                  clear hr0
                  go_wp2
                  go_quiet (fail)
                  go_wp2
                  go_quiet ((go_at_call 34; (with_reducible exact Q1.out _ _)))
                  go_wp2
                  go_ret2
                  exact ⟨rfl, by first | exact bdn (bdn hB2 _) _ | exact bdn hB2 _⟩
              · rw [hpj] at ea
                rw [hpm] at eb
                simp at ea eb
                subst ea eb
                have pj : ((j : Int) % 2 == 1) = true := by rw [beq_iff_eq]; omega
                have pm : ((m : Int) % 2 == 1) = false := by rw [beq_eq_false_iff_ne]; omega
                have wp : IntKind.i64.wrap (-p) = -p := by rw [IntKind.wrap_i64]; omega
                have wD : IntKind.i64.wrap (-p - q) = D := by rw [IntKind.wrap_i64]; omega
                clear eD hpj hpm
                by_cases hr0 : r = 0
                · have rn : (r != 0) = false := by rw [hr0]; rfl
                  have HMN := Lib.hid (show ∀ z, z < m + 1 → ((Nat.gcd (tn xs j) (tn xs z) : Nat) : Int) ∣ cT ys j - cT ys z from fun z hz => by
                    rcases Nat.lt_or_ge z m with h1 | h1
                    · exact HM.out z h1
                    · obtain rfl : z = m := by omega
                      exact HDV.out.1 hr0)
                  clear hr0
                  go_wp2
                  go_quiet (fail)
                  go_wp2
                  go_quiet ((go_at_call 34; (with_reducible exact Q1.out _ _)))
                  go_wp2
                  go_roundw
                  case rel => exact ⟨m + 1, by omega, by go_num, HMN, by first | exact bdn (bdn hB2 _) _ | exact bdn hB2 _⟩
                  case measure => simp [intOf]; omega
                · have rn : (r != 0) = true := bne_iff_ne.2 hr0
                  have hbf : b = false := by
                    cases hbv : b with
                    | false => rfl
                    | true => exact absurd (HDV.out.2 (HB.out.1 hbv j (by rw [HN.out]; exact hlj) m hlm)) hr0
                  subst hbf
                  clear hr0
                  go_wp2
                  go_quiet (fail)
                  go_wp2
                  go_quiet ((go_at_call 34; (with_reducible exact Q1.out _ _)))
                  go_wp2
                  go_ret2
                  exact ⟨rfl, by first | exact bdn (bdn hB2 _) _ | exact bdn hB2 _⟩
              · rw [hpj] at ea
                rw [hpm] at eb
                simp at ea eb
                subst ea eb
                have pj : ((j : Int) % 2 == 1) = true := by rw [beq_iff_eq]; omega
                have pm : ((m : Int) % 2 == 1) = true := by rw [beq_iff_eq]; omega
                have wp : IntKind.i64.wrap (-p) = -p := by rw [IntKind.wrap_i64]; omega
                have wq : IntKind.i64.wrap (-q) = -q := by rw [IntKind.wrap_i64]; omega
                have wD : IntKind.i64.wrap (-p + q) = D := by rw [IntKind.wrap_i64]; omega
                clear eD hpj hpm
                by_cases hr0 : r = 0
                · have rn : (r != 0) = false := by rw [hr0]; rfl
                  have HMN := Lib.hid (show ∀ z, z < m + 1 → ((Nat.gcd (tn xs j) (tn xs z) : Nat) : Int) ∣ cT ys j - cT ys z from fun z hz => by
                    rcases Nat.lt_or_ge z m with h1 | h1
                    · exact HM.out z h1
                    · obtain rfl : z = m := by omega
                      exact HDV.out.1 hr0)
                  clear hr0
                  go_wp2
                  go_quiet (fail)
                  go_wp2
                  go_quiet ((go_at_call 34; (with_reducible exact Q1.out _ _)))
                  go_wp2
                  go_roundw
                  case rel => exact ⟨m + 1, by omega, by go_num, HMN, by first | exact bdn (bdn hB2 _) _ | exact bdn hB2 _⟩
                  case measure => simp [intOf]; omega
                · have rn : (r != 0) = true := bne_iff_ne.2 hr0
                  have hbf : b = false := by
                    cases hbv : b with
                    | false => rfl
                    | true => exact absurd (HDV.out.2 (HB.out.1 hbv j (by rw [HN.out]; exact hlj) m hlm)) hr0
                  subst hbf
                  clear hr0
                  go_wp2
                  go_quiet (fail)
                  go_wp2
                  go_quiet ((go_at_call 34; (with_reducible exact Q1.out _ _)))
                  go_wp2
                  go_ret2
                  exact ⟨rfl, by first | exact bdn (bdn hB2 _) _ | exact bdn hB2 _⟩
            · obtain rfl : m = j := by omega
              have HAN := Lib.hid (show ∀ i, i < m + 1 → ∀ q, q < i → ((Nat.gcd (tn xs i) (tn xs q) : Nat) : Int) ∣ cT ys i - cT ys q from fun i hi q hq => by
                rcases Nat.lt_or_ge i m with h1 | h1
                · exact HA.out i h1 q hq
                · obtain rfl : i = m := by omega
                  exact HM.out q hq)
              go_wp2
              go_roundw
              case rel => exact ⟨m + 1, by omega, by go_num, HAN, hB2⟩
              case measure => simp [intOf]; omega
        · obtain rfl : j = k := by omega
          have hbt : b = true := HB.out.2 (fun i hi q hq => HA.out i (by rw [HN.out] at hi; exact hi) q hq)
          subst hbt
          go_wp2
          go_ret2
          exact ⟨rfl, hB⟩

set_option maxHeartbeats 2000000 in
theorem core_AreInGear (v : Value) (xs : List Int) (u : Value) (ys : List Int) (x : Bool) (b : Bool) (w : World) (hA0 : ArgI w v xs) (hn0 : xs.length ≤ 1048576) (hA1 : ArgI w u ys) (hn1 : ys.length ≤ 1048576) 
    (hs : ∀ (W : World) (u0 : Value) (B0 T0 : Nat) (u1 : Value) (B1 T1 : Nat), IntsIn 3 W B0 T0 u0 xs → T0 ≤ W.heap.size → IntsIn 3 W B1 T1 u1 ys → T1 ≤ W.heap.size → Calls Try.prog 22 #[u0, u1] W (fun e w' => e = .returned (.tuple #[.bool x, .bool b]) ∧ Below W.heap.size W w'))
    (hi : ∀ (W : World) (u0 : Value) (B0 T0 : Nat) (u1 : Value) (B1 T1 : Nat), IntsIn 3 W B0 T0 u0 xs → T0 ≤ W.heap.size → IntsIn 3 W B1 T1 u1 ys → T1 ≤ W.heap.size → Calls Try.prog 23 #[u0, u1] W (fun e w' => e = .returned (.tuple #[.bool x, .bool b]) ∧ Below W.heap.size W w')) :
    Calls Try.prog 7 #[v, u] w fun e w' => e = .returned (.bool true) ∧ Below w.heap.size w w' := by
  have hA0' := hA0
  obtain ⟨a00, cap0, a0, rfl, _⟩ := hA0'
  have HA0 := Lib.hid hA0
  clear hA0
  have hA1' := hA1
  obtain ⟨a10, cap1, a1, rfl, _⟩ := hA1'
  have HA1 := Lib.hid hA1
  clear hA1
  have HS := Lib.hid hs
  have HI := Lib.hid hi
  clear hs hi
  go_enter Try.func7, Try.ntmps7
  go_wp2_with fail
  refine (toIntS_any _ _ _ (HA0.out.later (by go_grown)) hn0).mono ?_
  rintro e w1 ⟨va0, rfl, ka0_1, hb1⟩
  have n1 : w.heap.size ≤ w1.heap.size := by have := hb1.size; (try simp at this); omega
  have B1 : Below w.heap.size w w1 := Below.trans (by go_grown) (hb1.mono (by first | (simp; done) | (simp; omega)))
  go_wp2_with fail
  refine (toIntS_any _ _ _ (HA1.out.later B1) hn1).mono ?_
  rintro e w2 ⟨va1, rfl, ka1_2, hb2⟩
  have n2 := hb2.size
  have B2 := B1.trans (hb2.mono (by omega))
  have ka0_2 := ka0_1.keep (belowSame hb2 (by omega))
  go_wp2_with fail
  refine (HS.out _ _ _ _ _ _ _ ka0_2 (by omega) ka1_2 (by omega)).mono ?_
  rintro e w3 ⟨rfl, hb3⟩
  have n3 := hb3.size
  have B3 := B2.trans (hb3.mono (by omega))
  have ka0_3 := ka0_2.keep (belowSame hb3 (by omega))
  have ka1_3 := ka1_2.keep (belowSame hb3 (by omega))
  go_wp2_with fail
  refine (toIntS_any _ _ _ (HA0.out.later B3) hn0).mono ?_
  rintro e w4 ⟨vc0, rfl, kc0_4, hb4⟩
  have n4 := hb4.size
  have B4 := B3.trans (hb4.mono (by omega))
  have ka0_4 := ka0_3.keep (belowSame hb4 (by omega))
  have ka1_4 := ka1_3.keep (belowSame hb4 (by omega))
  go_wp2_with fail
  refine (toIntS_any _ _ _ (HA1.out.later B4) hn1).mono ?_
  rintro e w5 ⟨vc1, rfl, kc1_5, hb5⟩
  have n5 := hb5.size
  have B5 := B4.trans (hb5.mono (by omega))
  have ka0_5 := ka0_4.keep (belowSame hb5 (by omega))
  have ka1_5 := ka1_4.keep (belowSame hb5 (by omega))
  have kc0_5 := kc0_4.keep (belowSame hb5 (by omega))
  go_wp2_with fail
  refine (HI.out _ _ _ _ _ _ _ kc0_5 (by omega) kc1_5 (by omega)).mono ?_
  rintro e w6 ⟨rfl, hb6⟩
  have n6 := hb6.size
  have B6 := B5.trans (hb6.mono (by omega))
  have ka0_6 := ka0_5.keep (belowSame hb6 (by omega))
  have ka1_6 := ka1_5.keep (belowSame hb6 (by omega))
  have kc0_6 := kc0_5.keep (belowSame hb6 (by omega))
  have kc1_6 := kc1_5.keep (belowSame hb6 (by omega))
  go_wp2_with fail
  refine (toIntS_any _ _ _ (HA0.out.later B6) hn0).mono ?_
  rintro e w7 ⟨vd0, rfl, kd0_7, hb7⟩
  have n7 := hb7.size
  have B7 := B6.trans (hb7.mono (by omega))
  have ka0_7 := ka0_6.keep (belowSame hb7 (by omega))
  have ka1_7 := ka1_6.keep (belowSame hb7 (by omega))
  have kc0_7 := kc0_6.keep (belowSame hb7 (by omega))
  have kc1_7 := kc1_6.keep (belowSame hb7 (by omega))
  go_wp2_with fail
  refine (eqIntS_in _ _ _ _ _ _ _ _ _ kc0_7 kd0_7).mono ?_
  rintro e w8 ⟨rfl, hb8⟩
  have n8 := hb8.size
  have B8 := B7.trans (hb8.mono (by omega))
  have ka0_8 := ka0_7.keep (belowSame hb8 (by omega))
  have ka1_8 := ka1_7.keep (belowSame hb8 (by omega))
  have kc0_8 := kc0_7.keep (belowSame hb8 (by omega))
  have kc1_8 := kc1_7.keep (belowSame hb8 (by omega))
  have kd0_8 := kd0_7.keep (belowSame hb8 (by omega))
  go_wp2_with fail
  refine (toIntS_any _ _ _ (HA1.out.later B8) hn1).mono ?_
  rintro e w9 ⟨vd1, rfl, kd1_9, hb9⟩
  have n9 := hb9.size
  have B9 := B8.trans (hb9.mono (by omega))
  have ka0_9 := ka0_8.keep (belowSame hb9 (by omega))
  have ka1_9 := ka1_8.keep (belowSame hb9 (by omega))
  have kc0_9 := kc0_8.keep (belowSame hb9 (by omega))
  have kc1_9 := kc1_8.keep (belowSame hb9 (by omega))
  have kd0_9 := kd0_8.keep (belowSame hb9 (by omega))
  go_wp2_with fail
  refine (eqIntS_in _ _ _ _ _ _ _ _ _ kc1_9 kd1_9).mono ?_
  rintro e w10 ⟨rfl, hb10⟩
  have n10 := hb10.size
  have B10 := B9.trans (hb10.mono (by omega))
  have ka0_10 := ka0_9.keep (belowSame hb10 (by omega))
  have ka1_10 := ka1_9.keep (belowSame hb10 (by omega))
  have kc0_10 := kc0_9.keep (belowSame hb10 (by omega))
  have kc1_10 := kc1_9.keep (belowSame hb10 (by omega))
  have kd0_10 := kd0_9.keep (belowSame hb10 (by omega))
  have kd1_10 := kd1_9.keep (belowSame hb10 (by omega))
  go_wp2_with fail
  go_ret
  exact ⟨rfl, B10⟩

set_option maxHeartbeats 400000 in
theorem long0_AreInGear (v : Value) (xs : List Int) (u : Value) (ys : List Int) (w : World) (hA0 : ArgI w v xs) (hn0 : ¬ xs.length ≤ 1048576) (hA1 : ArgI w u ys) :
    Calls Try.prog 7 #[v, u] w fun e w' => e = .returned (.bool true) ∧ Below w.heap.size w w' := by
  obtain ⟨a00, cap0, a0, rfl, _, hm0, _⟩ := hA0
  obtain ⟨a10, cap1, a1, rfl, _, hm1, _⟩ := hA1
  unfold maxLen at *
  go_enter Try.func7, Try.ntmps7
  go_wp2
  go_ret
  exact ⟨rfl, by go_grown⟩

set_option maxHeartbeats 400000 in
theorem long1_AreInGear (v : Value) (xs : List Int) (u : Value) (ys : List Int) (w : World) (hA0 : ArgI w v xs) (hn0 : xs.length ≤ 1048576) (hA1 : ArgI w u ys) (hn1 : ¬ ys.length ≤ 1048576) :
    Calls Try.prog 7 #[v, u] w fun e w' => e = .returned (.bool true) ∧ Below w.heap.size w w' := by
  obtain ⟨a00, cap0, a0, rfl, _, hm0, _⟩ := hA0
  obtain ⟨a10, cap1, a1, rfl, _, hm1, _⟩ := hA1
  unfold maxLen at *
  go_enter Try.func7, Try.ntmps7
  go_wp2
  go_ret
  exact ⟨rfl, by go_grown⟩

theorem walk_AreInGear (v : Value) (xs : List Int) (u : Value) (ys : List Int) (w : World) (hA0 : ArgI w v xs) (hA1 : ArgI w u ys) :
    Calls Try.prog 7 #[v, u] w fun e w' => e = .returned (.bool true) ∧ Below w.heap.size w w' := by
  by_cases hn0 : xs.length ≤ 1048576
  · by_cases hn1 : ys.length ≤ 1048576
    · by_cases ht : Train xs ∧ TeethOf xs ys
      · obtain ⟨b, hb⟩ : ∃ b : Bool, b = true ↔ Agree xs ys := ⟨@decide (Agree xs ys) (Classical.propDecidable _), @decide_eq_true_iff _ (Classical.propDecidable _)⟩
        exact core_AreInGear v xs u ys b true w hA0 hn0 hA1 hn1 (fun W u0 B0 T0 u1 B1 T1 h0 _ h1 _ => sAreInGear_yes u0 u1 xs ys B0 T0 B1 T1 b W h0 h1 ht.1 ht.2 hb) (fun W u0 B0 T0 u1 B1 T1 h0 _ h1 _ => iAreInGear_yes u0 u1 xs ys B0 T0 B1 T1 b W h0 h1 ht.1 ht.2 hb)
      · exact core_AreInGear v xs u ys false false w hA0 hn0 hA1 hn1 (fun W u0 B0 T0 u1 B1 T1 h0 _ h1 _ => sAreInGear_no u0 u1 xs ys W h0.arg h1.arg hn0 hn1 ht) (fun W u0 B0 T0 u1 B1 T1 h0 _ h1 _ => iAreInGear_no u0 u1 xs ys W h0.arg h1.arg ht)
    · exact long1_AreInGear v xs u ys w hA0 hn0 hA1 hn1
  · exact long0_AreInGear v xs u ys w hA0 hn0 hA1

end Go.Proofs.Ytnnhjnogebicbab
