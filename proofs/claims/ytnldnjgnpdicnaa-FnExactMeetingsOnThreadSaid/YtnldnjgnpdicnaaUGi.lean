/- The program's AreThreads: whether a list is one of threads. -/
import Derived.Test.YtnldnjgnpdicnaaUG
namespace Go.Proofs.Ytnldnjgnpdicnaa
open Go.RowKit

set_option maxHeartbeats 1000000 in
theorem AreThreads_end (v : Value) (xs : List (Int × Int)) (B T : Nat) (w : World) (h : PairsIn 83 w B T v xs) (m : Nat) (b : Bool) (hl : 1 ≤ xs.length ∧ xs.length ≤ 30) (hm : m ≤ xs.length) (hok : ∀ k, k < m → okT xs k) (hend : (m = xs.length ∧ b = true) ∨ (m < xs.length ∧ b = false ∧ ¬ okT xs m)) : Calls Try.prog 65 #[v] w fun e w' => e = .returned (.bool b) ∧ Below w.heap.size w w' := by
  obtain ⟨a1, c1, g1, rfl, ha1, hmm, hx1, hy1⟩ := h.pairs.view
  have X := Lib.hid hx1
  have Y := Lib.hid hy1
  have HA := Lib.hid ha1
  have HE := Lib.hid hend
  clear h ha1 hx1 hy1 hmm hend
  have HOK := Lib.hid hok
  clear hok
  have hl1 := hl.1
  have hl2 := hl.2
  clear hl
  go_enter Try.func65, Try.ntmps65
  go_wp2
  go_loopw [15] (fun i wr => ∃ k : Nat, k ≤ m ∧ i = .int .i64 k ∧ Below w.heap.size w wr) (fun i _ => m - (intOf i).toNat)
  case atStart => exact ⟨0, by omega, rfl, by go_grown⟩
  case round =>
    obtain ⟨k, hk, rfl, hB⟩ := hrel
    have hz := hB.size
    by_cases hlt : k < m
    · have hokk := HOK.out k hlt
      obtain ⟨x, y, hxy⟩ : ∃ x y, xs.getD k (0, 0) = (x, y) := ⟨_, _, rfl⟩
      obtain rfl := HA.out (by omega)
      have cx : wr.cell? ⟨g1, k * 2, none⟩ = _ := (hB.cell (p := ⟨g1, k * 2, none⟩) (World.block_lt_of_cell? w _ (X.out k (by omega)))).trans (X.out k (by omega))
      have cy : wr.cell? ⟨g1, k * 2 + 1, none⟩ = _ := (hB.cell (p := ⟨g1, k * 2 + 1, none⟩) (World.block_lt_of_cell? w _ (Y.out k (by omega)))).trans (Y.out k (by omega))
      rw [hxy] at cx cy
      simp only at cx cy
      unfold okT at hokk
      rw [hxy] at hokk
      have HO := Lib.hid hokk.1
      by_cases h0 : k = 0
      · have hk4 : decide (0 < k) = false := by simp; omega
        clear hokk hxy h0 X Y HOK HA HE
        go_wp2
        refine wp_region_held_drew (S := fun w' => w'.cell? ⟨wr.heap.size, 0, none⟩ = some (.int .i64 x) ∧ w'.cell? ⟨wr.heap.size, 1, none⟩ = some (.int .i64 y)) (by kernel_rfl) (by (try dsimp only); go_keep) (fun hHeld => ?_)
        refine wpAnyH_take (i := 0) (v := ?v13) rfl (by kernel_rfl) (by kernel_rfl) (by kernel_rfl) (fun _ _ _ h => h) (Or.inl ⟨by rfl, ?hy13⟩) (by assumption) ?rest13
        case hy13 => (intro w hSw; (try dsimp only at hSw); go_simp; (try with_reducible rfl))
        simp only [Act.put, List.getElem_toArray, List.getElem_cons_zero, List.setIfInBounds_toArray, List.set_cons_zero, List.set_cons_succ]
        refine wpAnyH_ready (rs := [1]) (by kernel_rfl) (by simp) ?_
        refine AllReadyH.cons rfl (fun K hK => ?_) AllReadyH.nil
        simp only [List.getElem_toArray, List.getElem_cons_zero, List.getElem_cons_succ]
        go_simp
        (go_at_call 115; (with_reducible refine (isThread_yes x y _ HO.out).mono ?_); rintro e w1 ⟨rfl, hb⟩; (have c0 : w1.cell? ⟨wr.heap.size, 0, none⟩ = some (.int .i64 x) := cellB hb (by first | assumption | go_simp)); (have c1 : w1.cell? ⟨wr.heap.size, 1, none⟩ = some (.int .i64 y) := cellB hb (by first | assumption | go_simp)); (have hz1 : wr.heap.size < w1.heap.size := by (have := hb.size; (try simp at this); omega)); (have hB2 : Below w.heap.size w w1 := by (refine Below.trans ?_ (hb.mono (by first | omega | (simp; omega))); go_grown)))
        go_wp2_with fail
        refine hK.out _ _ (by (try dsimp only); go_keep) (fun hHeld => ?_)
        clear hK K
        refine wpAnyH_take (i := 2) (v := ?v14) rfl (by kernel_rfl) (by kernel_rfl) (by kernel_rfl) (fun _ _ _ h => h) (Or.inl ⟨by rfl, ?hy14⟩) (by assumption) ?rest14
        case hy14 => (intro w hSw; (try dsimp only at hSw); go_simp; (try with_reducible rfl))
        simp only [Act.put, List.getElem_toArray, List.getElem_cons_zero, List.getElem_cons_succ, List.setIfInBounds_toArray, List.set_cons_zero, List.set_cons_succ]
        refine wpAnyH_take (i := 3) (v := ?v15) rfl (by kernel_rfl) (by kernel_rfl) (by kernel_rfl) (fun _ _ _ h => h) (Or.inl ⟨by rfl, ?hy15⟩) (by assumption) ?rest15
        case hy15 => (intro w hSw; (try dsimp only at hSw); go_simp; (try with_reducible rfl))
        simp only [Act.put, List.getElem_toArray, List.getElem_cons_zero, List.getElem_cons_succ, List.setIfInBounds_toArray, List.set_cons_zero, List.set_cons_succ]
        refine wpAnyH_take (i := 4) (v := ?v16) rfl (by kernel_rfl) (by kernel_rfl) (by kernel_rfl) (fun _ _ _ h => h) (Or.inl ⟨by rfl, ?hy16⟩) (by assumption) ?rest16
        case hy16 => (intro w hSw; (try dsimp only at hSw); go_simp; (try with_reducible rfl))
        simp only [Act.put, List.getElem_toArray, List.getElem_cons_zero, List.getElem_cons_succ, List.setIfInBounds_toArray, List.set_cons_zero, List.set_cons_succ]
        refine wpAnyH_take (i := 5) (v := ?v17) rfl (by kernel_rfl) (by kernel_rfl) (by kernel_rfl) (fun _ _ _ h => h) (Or.inl ⟨by rfl, ?hy17⟩) (by assumption) ?rest17
        case hy17 => (intro w hSw; (try dsimp only at hSw); go_simp; (try with_reducible rfl))
        simp only [Act.put, List.getElem_toArray, List.getElem_cons_zero, List.getElem_cons_succ, List.setIfInBounds_toArray, List.set_cons_zero, List.set_cons_succ]
        refine wpAnyH_take (i := 6) (v := ?v18) rfl (by kernel_rfl) (by kernel_rfl) (by kernel_rfl) (fun _ _ _ h => h) (Or.inl ⟨by rfl, ?hy18⟩) (by assumption) ?rest18
        case hy18 => (intro w hSw; (try dsimp only at hSw); go_simp; (try with_reducible rfl))
        simp only [Act.put, List.getElem_toArray, List.getElem_cons_zero, List.getElem_cons_succ, List.setIfInBounds_toArray, List.set_cons_zero, List.set_cons_succ]
        refine wpAnyH_take (i := 7) (v := undef) rfl (by kernel_rfl) (by kernel_rfl) (by kernel_rfl) (fun _ _ _ h => h) (Or.inr ⟨by rfl, rfl⟩) (by assumption) ?_
        simp only [Act.put, List.getElem_toArray, List.getElem_cons_zero, List.getElem_cons_succ, List.setIfInBounds_toArray, List.set_cons_zero, List.set_cons_succ]
        refine wpAnyH_take (i := 8) (v := undef) rfl (by kernel_rfl) (by kernel_rfl) (by kernel_rfl) (fun _ _ _ h => h) (Or.inr ⟨by rfl, rfl⟩) (by assumption) ?_
        simp only [Act.put, List.getElem_toArray, List.getElem_cons_zero, List.getElem_cons_succ, List.setIfInBounds_toArray, List.set_cons_zero, List.set_cons_succ]
        refine wpAnyH_take (i := 9) (v := undef) rfl (by kernel_rfl) (by kernel_rfl) (by kernel_rfl) (fun _ _ _ h => h) (Or.inr ⟨by rfl, rfl⟩) (by assumption) ?_
        simp only [Act.put, List.getElem_toArray, List.getElem_cons_zero, List.getElem_cons_succ, List.setIfInBounds_toArray, List.set_cons_zero, List.set_cons_succ]
        refine wpAnyH_take (i := 10) (v := undef) rfl (by kernel_rfl) (by kernel_rfl) (by kernel_rfl) (fun _ _ _ h => h) (Or.inr ⟨by rfl, rfl⟩) (by assumption) ?_
        simp only [Act.put, List.getElem_toArray, List.getElem_cons_zero, List.getElem_cons_succ, List.setIfInBounds_toArray, List.set_cons_zero, List.set_cons_succ]
        refine wpAnyH_take (i := 11) (v := undef) rfl (by kernel_rfl) (by kernel_rfl) (by kernel_rfl) (fun _ _ _ h => h) (Or.inr ⟨by rfl, rfl⟩) (by assumption) ?_
        simp only [Act.put, List.getElem_toArray, List.getElem_cons_zero, List.getElem_cons_succ, List.setIfInBounds_toArray, List.set_cons_zero, List.set_cons_succ]
        refine wpAnyH_take (i := 12) (v := undef) rfl (by kernel_rfl) (by kernel_rfl) (by kernel_rfl) (fun _ _ _ h => h) (Or.inr ⟨by rfl, rfl⟩) (by assumption) ?_
        simp only [Act.put, List.getElem_toArray, List.getElem_cons_zero, List.getElem_cons_succ, List.setIfInBounds_toArray, List.set_cons_zero, List.set_cons_succ]
        refine wpAnyH_take (i := 13) (v := undef) rfl (by kernel_rfl) (by kernel_rfl) (by kernel_rfl) (fun _ _ _ h => h) (Or.inr ⟨by rfl, rfl⟩) (by assumption) ?_
        simp only [Act.put, List.getElem_toArray, List.getElem_cons_zero, List.getElem_cons_succ, List.setIfInBounds_toArray, List.set_cons_zero, List.set_cons_succ]
        refine wpAnyH_take (i := 14) (v := undef) rfl (by kernel_rfl) (by kernel_rfl) (by kernel_rfl) (fun _ _ _ h => h) (Or.inr ⟨by rfl, rfl⟩) (by assumption) ?_
        simp only [Act.put, List.getElem_toArray, List.getElem_cons_zero, List.getElem_cons_succ, List.setIfInBounds_toArray, List.set_cons_zero, List.set_cons_succ]
        refine wpAnyH_take (i := 15) (v := ?v19) rfl (by kernel_rfl) (by kernel_rfl) (by kernel_rfl) (fun _ _ _ h => h) (Or.inl ⟨by rfl, ?hy19⟩) (by assumption) ?rest19
        case hy19 => (intro w hSw; (try dsimp only at hSw); go_simp; (try with_reducible rfl))
        simp only [Act.put, List.getElem_toArray, List.getElem_cons_zero, List.getElem_cons_succ, List.setIfInBounds_toArray, List.set_cons_zero, List.set_cons_succ]
        refine wpAnyH_take (i := 16) (v := ?v20) rfl (by kernel_rfl) (by kernel_rfl) (by kernel_rfl) (fun _ _ _ h => h) (Or.inl ⟨by rfl, ?hy20⟩) (by assumption) ?rest20
        case hy20 => (intro w hSw; (try dsimp only at hSw); go_simp; (try with_reducible rfl))
        simp only [Act.put, List.getElem_toArray, List.getElem_cons_zero, List.getElem_cons_succ, List.setIfInBounds_toArray, List.set_cons_zero, List.set_cons_succ]
        refine wpAnyH_done (by kernel_rfl) ?_ _
        go_wp2
        go_roundw
        case rel => exact ⟨k + 1, by omega, by go_num, by go_grown⟩
        case measure => simp [intOf]; omega
      · have hokl := hokk.2 (by omega)
        obtain ⟨x', y', hxy'⟩ : ∃ x y, xs.getD (k - 1) (0, 0) = (x, y) := ⟨_, _, rfl⟩
        have cx' : wr.cell? ⟨g1, (k - 1) * 2, none⟩ = _ := (hB.cell (p := ⟨g1, (k - 1) * 2, none⟩) (World.block_lt_of_cell? w _ (X.out (k - 1) (by omega)))).trans (X.out (k - 1) (by omega))
        have cy' : wr.cell? ⟨g1, (k - 1) * 2 + 1, none⟩ = _ := (hB.cell (p := ⟨g1, (k - 1) * 2 + 1, none⟩) (World.block_lt_of_cell? w _ (Y.out (k - 1) (by omega)))).trans (Y.out (k - 1) (by omega))
        rw [hxy'] at cx' cy'
        simp only at cx' cy'
        have hk1 : IntKind.i64.wrap ((k : Int) - 1) = ((k - 1 : Nat) : Int) := by rw [IntKind.wrap_i64]; omega
        have hk2 : 0 ≤ ((k - 1 : Nat) : Int) := by omega
        have hk3 : ((k - 1 : Nat) : Int) < (xs.length : Int) := by omega
        have hk4 : 0 < k := by omega
        rw [hxy'] at hokl
        have hle := hokl
        have HL := Lib.hid (cmp_of_less hle)
        clear hokk hokl hxy hxy' hle
        go_wp2
        go_region_held3 (fun w' => w'.cell? ⟨wr.heap.size, 0, none⟩ = some (.int .i64 x) ∧ w'.cell? ⟨wr.heap.size, 1, none⟩ = some (.int .i64 y) ∧ w'.cell? ⟨g1, (k - 1) * 2, none⟩ = some (.int .i64 x') ∧ w'.cell? ⟨g1, (k - 1) * 2 + 1, none⟩ = some (.int .i64 y')) (go_keep)
          (first | (go_at_call 115; (with_reducible refine (isThread_yes x y _ HO.out).mono ?_); rintro e w1 ⟨rfl, hb⟩; (have c0 : w1.cell? ⟨wr.heap.size, 0, none⟩ = some (.int .i64 x) := cellB hb (by first | assumption | go_simp)); (have c1 : w1.cell? ⟨wr.heap.size, 1, none⟩ = some (.int .i64 y) := cellB hb (by first | assumption | go_simp)); (have hz1 : wr.heap.size < w1.heap.size := by (have := hb.size; (try simp at this); omega)); (have hB2 : Below w.heap.size w w1 := by (refine Below.trans ?_ (hb.mono (by first | omega | (simp; omega))); go_grown)); (have e0 : w1.cell? ⟨g1, (k - 1) * 2, none⟩ = some (.int .i64 x') := cellB hb (by first | assumption | go_simp)); (have e1 : w1.cell? ⟨g1, (k - 1) * 2 + 1, none⟩ = some (.int .i64 y') := cellB hb (by first | assumption | go_simp))) | (go_at_call 116; (with_reducible refine (compareThreads_b x' y' x y _).mono ?_); rintro e w1 ⟨rfl, hb⟩; rw [HL.out]; (have c0 : w1.cell? ⟨wr.heap.size, 0, none⟩ = some (.int .i64 x) := cellB hb (by first | assumption | go_simp)); (have c1 : w1.cell? ⟨wr.heap.size, 1, none⟩ = some (.int .i64 y) := cellB hb (by first | assumption | go_simp)); (have hz1 : wr.heap.size < w1.heap.size := by (have := hb.size; (try simp at this); omega)); (have hB2 : Below w.heap.size w w1 := by (refine Below.trans ?_ (hb.mono (by first | omega | (simp; omega))); go_grown)); (have e0 : w1.cell? ⟨g1, (k - 1) * 2, none⟩ = some (.int .i64 x') := cellB hb (by first | assumption | go_simp)); (have e1 : w1.cell? ⟨g1, (k - 1) * 2 + 1, none⟩ = some (.int .i64 y') := cellB hb (by first | assumption | go_simp))))
        go_wp2
        go_roundw
        case rel => exact ⟨k + 1, by omega, by go_num, by go_grown⟩
        case measure => simp [intOf]; omega
    · obtain rfl : k = m := by omega
      rcases HE.out with ⟨rfl, rfl⟩ | ⟨hlt2, rfl, hbad⟩
      · go_wp2
        go_ret
        exact ⟨rfl, hB⟩
      clear hlt hm
      obtain ⟨x, y, hxy⟩ : ∃ x y, xs.getD k (0, 0) = (x, y) := ⟨_, _, rfl⟩
      obtain rfl := HA.out (by omega)
      have cx : wr.cell? ⟨g1, k * 2, none⟩ = _ := (hB.cell (p := ⟨g1, k * 2, none⟩) (World.block_lt_of_cell? w _ (X.out k (by omega)))).trans (X.out k (by omega))
      have cy : wr.cell? ⟨g1, k * 2 + 1, none⟩ = _ := (hB.cell (p := ⟨g1, k * 2 + 1, none⟩) (World.block_lt_of_cell? w _ (Y.out k (by omega)))).trans (Y.out k (by omega))
      rw [hxy] at cx cy
      simp only at cx cy
      unfold okT at hbad
      rw [hxy] at hbad
      by_cases hi : isT x y
      · have HO := Lib.hid hi
        have hk0 : ¬ k = 0 := fun e => hbad ⟨hi, fun h => by omega⟩
        obtain ⟨x', y', hxy'⟩ : ∃ x y, xs.getD (k - 1) (0, 0) = (x, y) := ⟨_, _, rfl⟩
        have cx' : wr.cell? ⟨g1, (k - 1) * 2, none⟩ = _ := (hB.cell (p := ⟨g1, (k - 1) * 2, none⟩) (World.block_lt_of_cell? w _ (X.out (k - 1) (by omega)))).trans (X.out (k - 1) (by omega))
        have cy' : wr.cell? ⟨g1, (k - 1) * 2 + 1, none⟩ = _ := (hB.cell (p := ⟨g1, (k - 1) * 2 + 1, none⟩) (World.block_lt_of_cell? w _ (Y.out (k - 1) (by omega)))).trans (Y.out (k - 1) (by omega))
        rw [hxy'] at cx' cy'
        simp only at cx' cy'
        have hk1 : IntKind.i64.wrap ((k : Int) - 1) = ((k - 1 : Nat) : Int) := by rw [IntKind.wrap_i64]; omega
        have hk2 : 0 ≤ ((k - 1 : Nat) : Int) := by omega
        have hk3 : ((k - 1 : Nat) : Int) < (xs.length : Int) := by omega
        have hk4 : 0 < k := by omega
        rw [hxy'] at hbad
        have hle : lessC (x', y') (x, y) = false := by
          cases e : lessC (x', y') (x, y) with
          | false => rfl
          | true => exact absurd ⟨hi, fun _ => e⟩ hbad
        clear hbad hxy hxy' hi
        rcases cmp_not_less hle with h1 | h1
        · have HL := Lib.hid h1
          clear hle h1
          go_wp2
          go_region_held3 (fun w' => w'.cell? ⟨wr.heap.size, 0, none⟩ = some (.int .i64 x) ∧ w'.cell? ⟨wr.heap.size, 1, none⟩ = some (.int .i64 y) ∧ w'.cell? ⟨g1, (k - 1) * 2, none⟩ = some (.int .i64 x') ∧ w'.cell? ⟨g1, (k - 1) * 2 + 1, none⟩ = some (.int .i64 y')) (go_keep)
            (first | (go_at_call 115; (with_reducible refine (isThread_yes x y _ HO.out).mono ?_); rintro e w1 ⟨rfl, hb⟩; (have c0 : w1.cell? ⟨wr.heap.size, 0, none⟩ = some (.int .i64 x) := cellB hb (by first | assumption | go_simp)); (have c1 : w1.cell? ⟨wr.heap.size, 1, none⟩ = some (.int .i64 y) := cellB hb (by first | assumption | go_simp)); (have hz1 : wr.heap.size < w1.heap.size := by (have := hb.size; (try simp at this); omega)); (have hB2 : Below w.heap.size w w1 := by (refine Below.trans ?_ (hb.mono (by first | omega | (simp; omega))); go_grown)); (have e0 : w1.cell? ⟨g1, (k - 1) * 2, none⟩ = some (.int .i64 x') := cellB hb (by first | assumption | go_simp)); (have e1 : w1.cell? ⟨g1, (k - 1) * 2 + 1, none⟩ = some (.int .i64 y') := cellB hb (by first | assumption | go_simp))) | (go_at_call 116; (with_reducible refine (compareThreads_b x' y' x y _).mono ?_); rintro e w1 ⟨rfl, hb⟩; rw [HL.out]; (have c0 : w1.cell? ⟨wr.heap.size, 0, none⟩ = some (.int .i64 x) := cellB hb (by first | assumption | go_simp)); (have c1 : w1.cell? ⟨wr.heap.size, 1, none⟩ = some (.int .i64 y) := cellB hb (by first | assumption | go_simp)); (have hz1 : wr.heap.size < w1.heap.size := by (have := hb.size; (try simp at this); omega)); (have hB2 : Below w.heap.size w w1 := by (refine Below.trans ?_ (hb.mono (by first | omega | (simp; omega))); go_grown)); (have e0 : w1.cell? ⟨g1, (k - 1) * 2, none⟩ = some (.int .i64 x') := cellB hb (by first | assumption | go_simp)); (have e1 : w1.cell? ⟨g1, (k - 1) * 2 + 1, none⟩ = some (.int .i64 y') := cellB hb (by first | assumption | go_simp))))
          go_wp2
          go_ret
          exact ⟨rfl, by go_grown⟩
        · have HL := Lib.hid h1
          clear hle h1
          go_wp2
          go_region_held3 (fun w' => w'.cell? ⟨wr.heap.size, 0, none⟩ = some (.int .i64 x) ∧ w'.cell? ⟨wr.heap.size, 1, none⟩ = some (.int .i64 y) ∧ w'.cell? ⟨g1, (k - 1) * 2, none⟩ = some (.int .i64 x') ∧ w'.cell? ⟨g1, (k - 1) * 2 + 1, none⟩ = some (.int .i64 y')) (go_keep)
            (first | (go_at_call 115; (with_reducible refine (isThread_yes x y _ HO.out).mono ?_); rintro e w1 ⟨rfl, hb⟩; (have c0 : w1.cell? ⟨wr.heap.size, 0, none⟩ = some (.int .i64 x) := cellB hb (by first | assumption | go_simp)); (have c1 : w1.cell? ⟨wr.heap.size, 1, none⟩ = some (.int .i64 y) := cellB hb (by first | assumption | go_simp)); (have hz1 : wr.heap.size < w1.heap.size := by (have := hb.size; (try simp at this); omega)); (have hB2 : Below w.heap.size w w1 := by (refine Below.trans ?_ (hb.mono (by first | omega | (simp; omega))); go_grown)); (have e0 : w1.cell? ⟨g1, (k - 1) * 2, none⟩ = some (.int .i64 x') := cellB hb (by first | assumption | go_simp)); (have e1 : w1.cell? ⟨g1, (k - 1) * 2 + 1, none⟩ = some (.int .i64 y') := cellB hb (by first | assumption | go_simp))) | (go_at_call 116; (with_reducible refine (compareThreads_b x' y' x y _).mono ?_); rintro e w1 ⟨rfl, hb⟩; rw [HL.out]; (have c0 : w1.cell? ⟨wr.heap.size, 0, none⟩ = some (.int .i64 x) := cellB hb (by first | assumption | go_simp)); (have c1 : w1.cell? ⟨wr.heap.size, 1, none⟩ = some (.int .i64 y) := cellB hb (by first | assumption | go_simp)); (have hz1 : wr.heap.size < w1.heap.size := by (have := hb.size; (try simp at this); omega)); (have hB2 : Below w.heap.size w w1 := by (refine Below.trans ?_ (hb.mono (by first | omega | (simp; omega))); go_grown)); (have e0 : w1.cell? ⟨g1, (k - 1) * 2, none⟩ = some (.int .i64 x') := cellB hb (by first | assumption | go_simp)); (have e1 : w1.cell? ⟨g1, (k - 1) * 2 + 1, none⟩ = some (.int .i64 y') := cellB hb (by first | assumption | go_simp))))
          go_wp2
          go_ret
          exact ⟨rfl, by go_grown⟩
      · have HO := Lib.hid hi
        clear hbad hxy hi X Y HOK HA HE
        go_wp2
        refine wp_region_held_drew (S := fun w' => w'.cell? ⟨wr.heap.size, 0, none⟩ = some (.int .i64 x) ∧ w'.cell? ⟨wr.heap.size, 1, none⟩ = some (.int .i64 y)) (by kernel_rfl) (by (try dsimp only); go_keep) (fun hHeld => ?_)
        refine wpAnyH_take (i := 0) (v := ?v21) rfl (by kernel_rfl) (by kernel_rfl) (by kernel_rfl) (fun _ _ _ h => h) (Or.inl ⟨by rfl, ?hy21⟩) (by assumption) ?rest21
        case hy21 => (intro w hSw; (try dsimp only at hSw); go_simp; (try with_reducible rfl))
        simp only [Act.put, List.getElem_toArray, List.getElem_cons_zero, List.setIfInBounds_toArray, List.set_cons_zero, List.set_cons_succ]
        refine wpAnyH_ready (rs := [1]) (by kernel_rfl) (by simp) ?_
        refine AllReadyH.cons rfl (fun K hK => ?_) AllReadyH.nil
        simp only [List.getElem_toArray, List.getElem_cons_zero, List.getElem_cons_succ]
        go_simp
        (go_at_call 115; (with_reducible refine (isThread_no x y _ HO.out).mono ?_); rintro e w1 ⟨rfl, hb⟩; (have c0 : w1.cell? ⟨wr.heap.size, 0, none⟩ = some (.int .i64 x) := cellB hb (by first | assumption | go_simp)); (have c1 : w1.cell? ⟨wr.heap.size, 1, none⟩ = some (.int .i64 y) := cellB hb (by first | assumption | go_simp)); (have hz1 : wr.heap.size < w1.heap.size := by (have := hb.size; (try simp at this); omega)); (have hB2 : Below w.heap.size w w1 := by (refine Below.trans ?_ (hb.mono (by first | omega | (simp; omega))); go_grown)))
        go_wp2_with fail
        refine hK.out _ _ (by (try dsimp only); go_keep) (fun hHeld => ?_)
        clear hK K
        refine wpAnyH_take (i := 2) (v := ?v22) rfl (by kernel_rfl) (by kernel_rfl) (by kernel_rfl) (fun _ _ _ h => h) (Or.inl ⟨by rfl, ?hy22⟩) (by assumption) ?rest22
        case hy22 => (intro w hSw; (try dsimp only at hSw); go_simp; (try with_reducible rfl))
        simp only [Act.put, List.getElem_toArray, List.getElem_cons_zero, List.getElem_cons_succ, List.setIfInBounds_toArray, List.set_cons_zero, List.set_cons_succ]
        refine wpAnyH_take (i := 3) (v := ?v23) rfl (by kernel_rfl) (by kernel_rfl) (by kernel_rfl) (fun _ _ _ h => h) (Or.inl ⟨by rfl, ?hy23⟩) (by assumption) ?rest23
        case hy23 => (intro w hSw; (try dsimp only at hSw); go_simp; (try with_reducible rfl))
        simp only [Act.put, List.getElem_toArray, List.getElem_cons_zero, List.getElem_cons_succ, List.setIfInBounds_toArray, List.set_cons_zero, List.set_cons_succ]
        refine wpAnyH_take (i := 4) (v := undef) rfl (by kernel_rfl) (by kernel_rfl) (by kernel_rfl) (fun _ _ _ h => h) (Or.inr ⟨by rfl, rfl⟩) (by assumption) ?_
        simp only [Act.put, List.getElem_toArray, List.getElem_cons_zero, List.getElem_cons_succ, List.setIfInBounds_toArray, List.set_cons_zero, List.set_cons_succ]
        refine wpAnyH_take (i := 5) (v := undef) rfl (by kernel_rfl) (by kernel_rfl) (by kernel_rfl) (fun _ _ _ h => h) (Or.inr ⟨by rfl, rfl⟩) (by assumption) ?_
        simp only [Act.put, List.getElem_toArray, List.getElem_cons_zero, List.getElem_cons_succ, List.setIfInBounds_toArray, List.set_cons_zero, List.set_cons_succ]
        refine wpAnyH_take (i := 6) (v := undef) rfl (by kernel_rfl) (by kernel_rfl) (by kernel_rfl) (fun _ _ _ h => h) (Or.inr ⟨by rfl, rfl⟩) (by assumption) ?_
        simp only [Act.put, List.getElem_toArray, List.getElem_cons_zero, List.getElem_cons_succ, List.setIfInBounds_toArray, List.set_cons_zero, List.set_cons_succ]
        refine wpAnyH_take (i := 7) (v := undef) rfl (by kernel_rfl) (by kernel_rfl) (by kernel_rfl) (fun _ _ _ h => h) (Or.inr ⟨by rfl, rfl⟩) (by assumption) ?_
        simp only [Act.put, List.getElem_toArray, List.getElem_cons_zero, List.getElem_cons_succ, List.setIfInBounds_toArray, List.set_cons_zero, List.set_cons_succ]
        refine wpAnyH_take (i := 8) (v := undef) rfl (by kernel_rfl) (by kernel_rfl) (by kernel_rfl) (fun _ _ _ h => h) (Or.inr ⟨by rfl, rfl⟩) (by assumption) ?_
        simp only [Act.put, List.getElem_toArray, List.getElem_cons_zero, List.getElem_cons_succ, List.setIfInBounds_toArray, List.set_cons_zero, List.set_cons_succ]
        refine wpAnyH_take (i := 9) (v := undef) rfl (by kernel_rfl) (by kernel_rfl) (by kernel_rfl) (fun _ _ _ h => h) (Or.inr ⟨by rfl, rfl⟩) (by assumption) ?_
        simp only [Act.put, List.getElem_toArray, List.getElem_cons_zero, List.getElem_cons_succ, List.setIfInBounds_toArray, List.set_cons_zero, List.set_cons_succ]
        refine wpAnyH_take (i := 10) (v := undef) rfl (by kernel_rfl) (by kernel_rfl) (by kernel_rfl) (fun _ _ _ h => h) (Or.inr ⟨by rfl, rfl⟩) (by assumption) ?_
        simp only [Act.put, List.getElem_toArray, List.getElem_cons_zero, List.getElem_cons_succ, List.setIfInBounds_toArray, List.set_cons_zero, List.set_cons_succ]
        refine wpAnyH_take (i := 11) (v := undef) rfl (by kernel_rfl) (by kernel_rfl) (by kernel_rfl) (fun _ _ _ h => h) (Or.inr ⟨by rfl, rfl⟩) (by assumption) ?_
        simp only [Act.put, List.getElem_toArray, List.getElem_cons_zero, List.getElem_cons_succ, List.setIfInBounds_toArray, List.set_cons_zero, List.set_cons_succ]
        refine wpAnyH_take (i := 12) (v := undef) rfl (by kernel_rfl) (by kernel_rfl) (by kernel_rfl) (fun _ _ _ h => h) (Or.inr ⟨by rfl, rfl⟩) (by assumption) ?_
        simp only [Act.put, List.getElem_toArray, List.getElem_cons_zero, List.getElem_cons_succ, List.setIfInBounds_toArray, List.set_cons_zero, List.set_cons_succ]
        refine wpAnyH_take (i := 13) (v := undef) rfl (by kernel_rfl) (by kernel_rfl) (by kernel_rfl) (fun _ _ _ h => h) (Or.inr ⟨by rfl, rfl⟩) (by assumption) ?_
        simp only [Act.put, List.getElem_toArray, List.getElem_cons_zero, List.getElem_cons_succ, List.setIfInBounds_toArray, List.set_cons_zero, List.set_cons_succ]
        refine wpAnyH_take (i := 14) (v := undef) rfl (by kernel_rfl) (by kernel_rfl) (by kernel_rfl) (fun _ _ _ h => h) (Or.inr ⟨by rfl, rfl⟩) (by assumption) ?_
        simp only [Act.put, List.getElem_toArray, List.getElem_cons_zero, List.getElem_cons_succ, List.setIfInBounds_toArray, List.set_cons_zero, List.set_cons_succ]
        refine wpAnyH_take (i := 15) (v := undef) rfl (by kernel_rfl) (by kernel_rfl) (by kernel_rfl) (fun _ _ _ h => h) (Or.inr ⟨by rfl, rfl⟩) (by assumption) ?_
        simp only [Act.put, List.getElem_toArray, List.getElem_cons_zero, List.getElem_cons_succ, List.setIfInBounds_toArray, List.set_cons_zero, List.set_cons_succ]
        refine wpAnyH_take (i := 16) (v := ?v24) rfl (by kernel_rfl) (by kernel_rfl) (by kernel_rfl) (fun _ _ _ h => h) (Or.inl ⟨by rfl, ?hy24⟩) (by assumption) ?rest24
        case hy24 => (intro w hSw; (try dsimp only at hSw); go_simp; (try with_reducible rfl))
        simp only [Act.put, List.getElem_toArray, List.getElem_cons_zero, List.getElem_cons_succ, List.setIfInBounds_toArray, List.set_cons_zero, List.set_cons_succ]
        refine wpAnyH_done (by kernel_rfl) ?_ _
        go_wp2
        go_ret
        exact ⟨rfl, by go_grown⟩

theorem AreThreads_yes (v : Value) (xs : List (Int × Int)) (B T : Nat) (w : World) (h : PairsIn 83 w B T v xs) (hg : goodT xs) : Calls Try.prog 65 #[v] w fun e w' => e = .returned (.bool true) ∧ Below w.heap.size w w' := by
  exact AreThreads_end v xs B T w h xs.length true hg.1 (Nat.le_refl _) hg.2 (.inl ⟨rfl, rfl⟩)

set_option maxHeartbeats 400000 in
theorem AreThreads_noS (v : Value) (xs : List (Int × Int)) (B T : Nat) (w : World) (h : PairsIn 83 w B T v xs) (hl : xs.length < 1) : Calls Try.prog 65 #[v] w fun e w' => e = .returned (.bool false) ∧ Below w.heap.size w w' := by
  obtain ⟨a1, c1, g1, rfl, _⟩ := h.pairs.view
  clear h
  go_enter Try.func65, Try.ntmps65
  go_wp2
  go_ret
  exact ⟨rfl, by go_grown⟩

set_option maxHeartbeats 400000 in
theorem AreThreads_noL (v : Value) (xs : List (Int × Int)) (B T : Nat) (w : World) (h : PairsIn 83 w B T v xs) (hl : 30 < xs.length) : Calls Try.prog 65 #[v] w fun e w' => e = .returned (.bool false) ∧ Below w.heap.size w w' := by
  obtain ⟨a1, c1, g1, rfl, _⟩ := h.pairs.view
  clear h
  go_enter Try.func65, Try.ntmps65
  go_wp2
  go_ret
  exact ⟨rfl, by go_grown⟩

theorem AreThreads_no (v : Value) (xs : List (Int × Int)) (B T : Nat) (w : World) (h : PairsIn 83 w B T v xs) (hg : ¬ goodT xs) : Calls Try.prog 65 #[v] w fun e w' => e = .returned (.bool false) ∧ Below w.heap.size w w' := by
  rcases not_goodT hg with hl | hl | ⟨hl, m, hm, hb, hok⟩
  · exact AreThreads_noS v xs B T w h hl
  · exact AreThreads_noL v xs B T w h hl
  · exact AreThreads_end v xs B T w h m false hl (Nat.le_of_lt hm) hok (.inr ⟨hm, rfl, hb⟩)

end Go.Proofs.Ytnldnjgnpdicnaa
