/- How many threads meet: counts, and the model. -/
import Derived.Test.YtngonpiiehmlaaaU4
import Derived.Test.YtngonpiiehmlaaaP6
import Derived.Test.YtngonpiiehmlaaaES
namespace Go.Proofs.Ytngonpiiehmlaaa
open Go.RowKit
set_option linter.unusedVariables false

theorem Pairs.cap_le {w : World} {B n cap : Nat} {a : Option Addr} {e : TypeId} {xs : List (Int × Int)} (h : Pairs w B e (.slice a n cap) xs) : xs.length ≤ cap ∧ cap ≤ maxLen := by
  obtain ⟨hl, ⟨hv, hn⟩ | ⟨g, c, cur, hv, hB, hg, hn, hm, hs, ht⟩⟩ := h
  · cases hv
    exact ⟨by omega, by unfold maxLen; omega⟩
  · cases hv
    exact ⟨hn, hm⟩

/-- Two threads cross. -/
def meetP (x y : Int × Int) : Bool := meetB x.1 x.2 y.1 y.2

theorem meetP_comm (x y : Int × Int) : meetP x y = meetP y x := by
  unfold meetP meetB
  rw [decide_eq_decide]
  omega

/-- How many threads of a list cross a chord. -/
def cntM (c : Int × Int) (xs : List (Int × Int)) : Nat := xs.countP (meetP c)

theorem cntM_snoc (c x : Int × Int) (xs : List (Int × Int)) : cntM c (xs ++ [x]) = cntM c xs + if meetP c x then 1 else 0 := by
  unfold cntM
  rw [List.countP_append]
  simp [List.countP_cons]

theorem cntM_take (c : Int × Int) (xs : List (Int × Int)) (k : Nat) (h : k < xs.length) : cntM c (xs.take (k + 1)) = cntM c (xs.take k) + if meetP c (xs.getD k (0, 0)) then 1 else 0 := by
  rw [List.take_succ_eq_append_getElem h, cntM_snoc]
  simp [List.getD, List.getElem?_eq_getElem h]

theorem cntM_le (c : Int × Int) (xs : List (Int × Int)) : cntM c xs ≤ xs.length := List.countP_le_length

/-- How many pairs cross. -/
def pairsM : List (Int × Int) → Nat
  | [] => 0
  | x :: r => cntM x r + pairsM r

theorem pairsM_snoc (xs : List (Int × Int)) (x : Int × Int) : pairsM (xs ++ [x]) = pairsM xs + cntM x xs := by
  induction xs with
  | nil => simp [pairsM, cntM]
  | cons y r ih =>
    show cntM y (r ++ [x]) + pairsM (r ++ [x]) = cntM y r + pairsM r + cntM x (y :: r)
    rw [ih, cntM_snoc, meetP_comm y x]
    unfold cntM
    rw [List.countP_cons]
    omega

theorem pairsM_take (xs : List (Int × Int)) (k : Nat) (h : k < xs.length) : pairsM (xs.take (k + 1)) = pairsM (xs.take k) + cntM (xs.getD k (0, 0)) (xs.take k) := by
  rw [List.take_succ_eq_append_getElem h, pairsM_snoc]
  simp [List.getD, List.getElem?_eq_getElem h]

theorem pairsM_drop (xs : List (Int × Int)) (k : Nat) (h : k < xs.length) : pairsM (xs.drop k) = cntM (xs.getD k (0, 0)) (xs.drop (k + 1)) + pairsM (xs.drop (k + 1)) := by
  rw [List.drop_eq_getElem_cons h]
  simp [pairsM, List.getD, List.getElem?_eq_getElem h]

theorem pairsM_le (xs : List (Int × Int)) : pairsM xs ≤ xs.length * xs.length := by
  induction xs with
  | nil => simp [pairsM]
  | cons x r ih =>
    show cntM x r + pairsM r ≤ _
    have := cntM_le x r
    rw [List.length_cons, Nat.add_mul, Nat.mul_add]
    omega

theorem cntM_drop_take (c : Int × Int) (xs : List (Int × Int)) (i k : Nat) (h : i + 1 + k < xs.length) : cntM c ((xs.drop (i + 1)).take (k + 1)) = cntM c ((xs.drop (i + 1)).take k) + if meetP c (xs.getD (i + 1 + k) (0, 0)) then 1 else 0 := by
  rw [cntM_take c (xs.drop (i + 1)) k (by simp; omega), getD_drop]

set_option maxHeartbeats 1000000 in
theorem sCountMeetings_yes (u : Value) (xs : List (Int × Int)) (B T : Nat) (w : World) (h : PairsIn 37 w B T u xs) (hT : T ≤ w.heap.size) (hg : goodT xs) :
    Calls Try.prog 32 #[u] w fun e w' => e = .returned (.tuple #[.int .i64 (pairsM xs : Nat), .bool true]) ∧ Below w.heap.size w w' := by
  have HU := Lib.hid h
  have HG := Lib.hid hg
  have hn : xs.length ≤ 1000 := by have := hg.1.2; omega
  obtain ⟨a1, c1, g1, rfl, ha1, hmm, hx1, hy1⟩ := h.pairs.view
  have hle := pairsM_le xs
  have hle2 : xs.length * xs.length ≤ 1000 * 1000 := Nat.mul_le_mul hn hn
  obtain ⟨hcap1, hcap2⟩ := h.pairs.cap_le
  unfold maxLen at hcap2
  have X := Lib.hid hx1
  have Y := Lib.hid hy1
  have HA := Lib.hid ha1
  obtain ⟨tot, htot⟩ : ∃ tot, tot = pairsM xs := ⟨_, rfl⟩
  rw [← htot] at hle ⊢
  have HTOT := Lib.hid htot
  clear h ha1 hx1 hy1 htot hg
  go_enter Try.func32, Try.ntmps32
  go_wp2_with (first | (go_at_call 48; (with_reducible refine (sgGood_yes _ _ B T _ HU.out HG.out).mono ?_); rintro e w0 ⟨rfl, hb0⟩))
  go_loopw [4, 14] (fun c i wr => ∃ k m : Nat, k ≤ xs.length ∧ i = .int .i64 k ∧ c = .int .i64 m ∧ m + pairsM (xs.drop k) = tot ∧ Below w.heap.size w wr) (fun _ i _ => xs.length - (intOf i).toNat)
  case atStart => exact ⟨0, 0, by omega, rfl, rfl, by rw [List.drop_zero, HTOT.out]; omega, by go_grown⟩
  case round =>
    obtain ⟨wo, rfl⟩ : ∃ z, z = wr := ⟨wr, rfl⟩
    obtain ⟨i, m, hi, rfl, rfl, hsum, hB⟩ := hrel
    have hz := hB.size
    by_cases hlt : i < xs.length
    · obtain rfl := HA.out (by omega)
      obtain ⟨x, hx⟩ : ∃ x, x = (xs.getD i (0, 0)).1 := ⟨_, rfl⟩
      obtain ⟨y, hy⟩ : ∃ y, y = (xs.getD i (0, 0)).2 := ⟨_, rfl⟩
      have cx : wo.cell? ⟨g1, i * 2, none⟩ = _ := (hB.cell (p := ⟨g1, i * 2, none⟩) (World.block_lt_of_cell? w _ (X.out i hlt))).trans (X.out i hlt)
      have cy : wo.cell? ⟨g1, i * 2 + 1, none⟩ = _ := (hB.cell (p := ⟨g1, i * 2 + 1, none⟩) (World.block_lt_of_cell? w _ (Y.out i hlt))).trans (Y.out i hlt)
      rw [← hx] at cx
      rw [← hy] at cy
      have HS := Lib.hid (show m + (cntM (x, y) (xs.drop (i + 1)) + pairsM (xs.drop (i + 1))) = tot by rw [hx, hy, ← hsum, pairsM_drop xs i hlt])
      clear hx hy hsum
      have hw1 : IntKind.i64.wrap ((i : Int) + 1) = ((i + 1 : Nat) : Int) := by rw [IntKind.wrap_i64]; omega
      have b1 : (0 : Int) ≤ ((i + 1 : Nat) : Int) := by omega
      have b2 : ((i + 1 : Nat) : Int) ≤ (xs.length : Int) := by omega
      go_wp2
      · obtain rfl : c1 = i + 1 := by omega
        have hm0 : xs.length - (i + 1) = 0 := by omega
        have hd0 : xs.drop (i + 1) = [] := List.drop_of_length_le (by omega)
        have hs0 := HS.out
        rw [hd0] at hs0
        rw [hm0]
        refine wp_loop_rounds 1 ?_
        rw [rounds_succ]
        go_wp2
        go_roundw
        case rel => exact ⟨i + 1, m, by omega, by go_num, rfl, by rw [hd0]; simpa [cntM, pairsM] using hs0, hB.alloc hz _⟩
        case measure => simp [intOf]; omega
      have e0 : (wo.alloc (.cells #[.int .i64 x, .int .i64 y] 37)).cell? ⟨wo.heap.size, 0, none⟩ = some (.int .i64 x) := by go_simp
      have e1 : (wo.alloc (.cells #[.int .i64 x, .int .i64 y] 37)).cell? ⟨wo.heap.size, 1, none⟩ = some (.int .i64 y) := by go_simp
      obtain ⟨n2, hn2⟩ : ∃ n2, n2 = xs.length - (i + 1) := ⟨_, rfl⟩
      rw [← hn2]
      go_loopw [4, 24] (fun c j wr => ∃ k m2 : Nat, k ≤ n2 ∧ j = .int .i64 k ∧ c = .int .i64 m2 ∧ m2 = m + cntM (x, y) ((xs.drop (i + 1)).take k) ∧ Below w.heap.size w wr ∧ wr.cell? ⟨wo.heap.size, 0, none⟩ = some (.int .i64 x) ∧ wr.cell? ⟨wo.heap.size, 1, none⟩ = some (.int .i64 y) ∧ wo.heap.size < wr.heap.size) (fun _ j _ => n2 - (intOf j).toNat)
      case atStart => exact ⟨0, m, by omega, rfl, rfl, by simp [cntM], hB.alloc hz _, e0, e1, by simp⟩
      case round =>
        obtain ⟨k, m2, hk, rfl, rfl, hm2, hBj, c0, c1, hz1⟩ := hrel
        clear e0 e1 cx cy
        have HM2 := Lib.hid hm2
        have hmt : m2 ≤ tot + 1000 := by
          have h1 := HS.out
          have h2 := cntM_le (x, y) ((xs.drop (i + 1)).take k)
          rw [List.length_take, List.length_drop] at h2
          omega
        by_cases hlk : k < n2
        · have hik : i + 1 + k < xs.length := by omega
          obtain ⟨x2, hx2⟩ : ∃ x, x = (xs.getD (i + 1 + k) (0, 0)).1 := ⟨_, rfl⟩
          obtain ⟨y2, hy2⟩ : ∃ y, y = (xs.getD (i + 1 + k) (0, 0)).2 := ⟨_, rfl⟩
          have dx : wr.cell? ⟨g1, (i + 1) * 2 + k * 2, none⟩ = some (.int .i64 x2) := by
            rw [show (i + 1) * 2 + k * 2 = (i + 1 + k) * 2 by omega, hx2]
            exact (hBj.cell (p := ⟨g1, (i + 1 + k) * 2, none⟩) (World.block_lt_of_cell? w _ (X.out _ hik))).trans (X.out _ hik)
          have dy : wr.cell? ⟨g1, (i + 1) * 2 + k * 2 + 1, none⟩ = some (.int .i64 y2) := by
            rw [show (i + 1) * 2 + k * 2 + 1 = (i + 1 + k) * 2 + 1 by omega, hy2]
            exact (hBj.cell (p := ⟨g1, (i + 1 + k) * 2 + 1, none⟩) (World.block_lt_of_cell? w _ (Y.out _ hik))).trans (Y.out _ hik)
          have hcp : meetP (x, y) (xs.getD (i + 1 + k) (0, 0)) = meetB x y x2 y2 := by unfold meetP; rw [hx2, hy2]
          have hstep := cntM_drop_take (x, y) xs i k hik
          clear hx2 hy2 hm2 hn2
          have k1 : (0 : Int) ≤ (k : Int) := by omega
          have k2 : (k : Int) < (n2 : Int) := by omega
          cases hcr : meetB x y x2 y2 with
          | true =>
            have HS2 := Lib.hid (show cntM (x, y) ((xs.drop (i + 1)).take (k + 1)) = cntM (x, y) ((xs.drop (i + 1)).take k) + 1 by rw [hstep, hcp, hcr]; rfl)
            have HCR := Lib.hid hcr
            clear hstep hcp hcr
            go_wp2_with (first | (go_at_call 54; (with_reducible refine (sgMeet_any x y x2 y2 _).mono ?_); rintro e w1 ⟨rfl, hb⟩; rw [HCR.out]; (have c0 : w1.cell? ⟨wo.heap.size, 0, none⟩ = some (.int .i64 x) := cellB hb (by first | assumption | go_simp)); (have c1 : w1.cell? ⟨wo.heap.size, 1, none⟩ = some (.int .i64 y) := cellB hb (by first | assumption | go_simp)); (have hB1 : Below w.heap.size w w1 := by (refine Below.trans ?_ (hb.mono (by first | omega | (simp; omega))); go_grown)); (have hz1 : wo.heap.size < w1.heap.size := by have := hb.size; (try simp at this); omega); clear hb))
            go_roundw
            case rel => exact ⟨k + 1, m2 + 1, by omega, by go_num, by go_num, by rw [HS2.out]; have := HM2.out; omega, hB1, c0, c1, hz1⟩
            case measure => simp [intOf]; omega
          | false =>
            have HS2 := Lib.hid (show cntM (x, y) ((xs.drop (i + 1)).take (k + 1)) = cntM (x, y) ((xs.drop (i + 1)).take k) + 0 by rw [hstep, hcp, hcr]; rfl)
            have HCR := Lib.hid hcr
            clear hstep hcp hcr
            go_wp2_with (first | (go_at_call 54; (with_reducible refine (sgMeet_any x y x2 y2 _).mono ?_); rintro e w1 ⟨rfl, hb⟩; rw [HCR.out]; (have c0 : w1.cell? ⟨wo.heap.size, 0, none⟩ = some (.int .i64 x) := cellB hb (by first | assumption | go_simp)); (have c1 : w1.cell? ⟨wo.heap.size, 1, none⟩ = some (.int .i64 y) := cellB hb (by first | assumption | go_simp)); (have hB1 : Below w.heap.size w w1 := by (refine Below.trans ?_ (hb.mono (by first | omega | (simp; omega))); go_grown)); (have hz1 : wo.heap.size < w1.heap.size := by have := hb.size; (try simp at this); omega); clear hb))
            go_roundw
            case rel => exact ⟨k + 1, m2 + 0, by omega, by go_num, by go_num, by rw [HS2.out]; have := HM2.out; omega, hB1, c0, c1, hz1⟩
            case measure => simp [intOf]; omega
        · obtain rfl : k = n2 := by omega
          have hs0 := HS.out
          rw [List.take_of_length_le (by simp; omega)] at hm2
          go_wp2
          go_roundw
          case rel => exact ⟨i + 1, m2, by omega, by go_num, rfl, by omega, hBj⟩
          case measure => simp [intOf]; omega
    · obtain rfl : i = xs.length := by omega
      rw [List.drop_length] at hsum
      obtain rfl : m = tot := by simpa [pairsM] using hsum
      go_wp2
      go_ret2
      exact ⟨rfl, hB⟩

theorem add_sum (f g : (Int × Int) → Nat) (xs : List (Int × Int)) : (xs.map (fun x => f x + g x)).sum = (xs.map f).sum + (xs.map g).sum := by
  induction xs with
  | nil => rfl
  | cons x r ih => simp only [List.map_cons, List.sum_cons, ih]; omega

theorem cnt_sum (c : Int × Int) (xs : List (Int × Int)) : (xs.map (fun y => if meetP y c then 1 else 0)).sum = cntM c xs := by
  induction xs with
  | nil => rfl
  | cons x r ih =>
    simp only [List.map_cons, List.sum_cons, ih]
    unfold cntM
    rw [List.countP_cons, meetP_comm x c]
    omega

/-- Each pair is counted on both of its threads. -/
theorem twice_pairs (xs : List (Int × Int)) : (xs.map (fun x => cntM x xs)).sum = 2 * pairsM xs := by
  induction xs with
  | nil => rfl
  | cons x r ih =>
    have e : ∀ y, cntM y (x :: r) = cntM y r + (if meetP y x then 1 else 0) := fun y => by unfold cntM; rw [List.countP_cons]
    have hx : meetP x x = false := by unfold meetP meetB; simp
    simp only [List.map_cons, List.sum_cons]
    rw [e x, hx, show (fun y => cntM y (x :: r)) = fun y => cntM y r + (if meetP y x then 1 else 0) from funext e, add_sum, cnt_sum, ih]
    simp only [pairsM]
    simp
    omega

theorem selT_cnt (c : Int × Int) (xs : List (Int × Int)) (k : Nat) (h : k ≤ xs.length) : (selT (fun k => meetP c (xs.getD k (0, 0))) k).length = cntM c (xs.take k) := by
  induction k with
  | zero => simp [selT_zero, cntM]
  | succ k ih =>
    rw [cntM_take c xs k (by omega), ← ih (by omega)]
    cases hc : meetP c (xs.getD k (0, 0)) with
    | true => rw [← selT_yes _ k hc]; simp
    | false => rw [← selT_no _ k hc]; simp

end Go.Proofs.Ytngonpiiehmlaaa
