/- The model's sgGood: whether a list is one of threads. -/
import Derived.Test.YtnldnjgnpdicnaaUG
namespace Go.Proofs.Ytnldnjgnpdicnaa
open Go.RowKit

set_option maxHeartbeats 1000000 in
theorem sgGood_end (v : Value) (xs : List (Int × Int)) (B T : Nat) (w : World) (h : PairsIn 83 w B T v xs) (m : Nat) (b : Bool) (hl : 1 ≤ xs.length ∧ xs.length ≤ 30) (hm : m ≤ xs.length) (hok : ∀ k, k < m → okT xs k) (hend : (m = xs.length ∧ b = true) ∨ (m < xs.length ∧ b = false ∧ ¬ okT xs m)) : Calls Try.prog 60 #[v] w fun e w' => e = .returned (.bool b) ∧ Below w.heap.size w w' := by
  obtain ⟨a1, c1, g1, rfl, ha1, hmm, hx1, hy1⟩ := h.pairs.view
  have X := Lib.hid hx1
  have Y := Lib.hid hy1
  have HA := Lib.hid ha1
  have HE := Lib.hid hend
  clear h ha1 hx1 hy1 hmm hend
  have HOK := Lib.hid hok
  clear hok
  have hl1 := hl.1
  have hl2 := hl.2
  clear hl
  go_enter Try.func60, Try.ntmps60
  go_wp2_with (first | (go_at_call 50; (with_reducible refine (l1In_yes _ _ _ _ (by omega)).mono ?_); rintro e w1 ⟨rfl, rfl⟩))
  go_loopw [11] (fun i wr => ∃ k : Nat, k ≤ m ∧ i = .int .i64 k ∧ Below w.heap.size w wr) (fun i _ => m - (intOf i).toNat)
  case atStart => exact ⟨0, by omega, rfl, by go_grown⟩
  case round =>
    obtain ⟨k, hk, rfl, hB⟩ := hrel
    have hz := hB.size
    by_cases hlt : k < m
    · have hokk := HOK.out k hlt
      obtain ⟨x, y, hxy⟩ : ∃ x y, xs.getD k (0, 0) = (x, y) := ⟨_, _, rfl⟩
      obtain rfl := HA.out (by omega)
      have cx : wr.cell? ⟨g1, k * 2, none⟩ = _ := (hB.cell (p := ⟨g1, k * 2, none⟩) (World.block_lt_of_cell? w _ (X.out k (by omega)))).trans (X.out k (by omega))
      have cy : wr.cell? ⟨g1, k * 2 + 1, none⟩ = _ := (hB.cell (p := ⟨g1, k * 2 + 1, none⟩) (World.block_lt_of_cell? w _ (Y.out k (by omega)))).trans (Y.out k (by omega))
      rw [hxy] at cx cy
      simp only at cx cy
      unfold okT at hokk
      rw [hxy] at hokk
      have HO := Lib.hid hokk.1
      by_cases h0 : k = 0
      · have hk4 : decide (0 < k) = false := by simp; omega
        clear hokk hxy h0 X Y HOK HA HE
        go_wp2
        refine wp_region_held_drew (S := fun w' => w'.cell? ⟨wr.heap.size, 0, none⟩ = some (.int .i64 x) ∧ w'.cell? ⟨wr.heap.size, 1, none⟩ = some (.int .i64 y)) (by kernel_rfl) (by (try dsimp only); go_keep) (fun hHeld => ?_)
        refine wpAnyH_take (i := 0) (v := ?v1) rfl (by kernel_rfl) (by kernel_rfl) (by kernel_rfl) (fun _ _ _ h => h) (Or.inl ⟨by rfl, ?hy1⟩) (by assumption) ?rest1
        case hy1 => (intro w hSw; (try dsimp only at hSw); go_simp; (try with_reducible rfl))
        simp only [Act.put, List.getElem_toArray, List.getElem_cons_zero, List.setIfInBounds_toArray, List.set_cons_zero, List.set_cons_succ]
        refine wpAnyH_ready (rs := [1]) (by kernel_rfl) (by simp) ?_
        refine AllReadyH.cons rfl (fun K hK => ?_) AllReadyH.nil
        simp only [List.getElem_toArray, List.getElem_cons_zero, List.getElem_cons_succ]
        go_simp
        (go_at_call 112; (with_reducible refine (sgThread_yes x y _ HO.out).mono ?_); rintro e w1 ⟨rfl, hb⟩; (have c0 : w1.cell? ⟨wr.heap.size, 0, none⟩ = some (.int .i64 x) := cellB hb (by first | assumption | go_simp)); (have c1 : w1.cell? ⟨wr.heap.size, 1, none⟩ = some (.int .i64 y) := cellB hb (by first | assumption | go_simp)); (have hz1 : wr.heap.size < w1.heap.size := by (have := hb.size; (try simp at this); omega)); (have hB2 : Below w.heap.size w w1 := by (refine Below.trans ?_ (hb.mono (by first | omega | (simp; omega))); go_grown)))
        go_wp2_with fail
        refine hK.out _ _ (by (try dsimp only); go_keep) (fun hHeld => ?_)
        clear hK K
        refine wpAnyH_take (i := 2) (v := ?v2) rfl (by kernel_rfl) (by kernel_rfl) (by kernel_rfl) (fun _ _ _ h => h) (Or.inl ⟨by rfl, ?hy2⟩) (by assumption) ?rest2
        case hy2 => (intro w hSw; (try dsimp only at hSw); go_simp; (try with_reducible rfl))
        simp only [Act.put, List.getElem_toArray, List.getElem_cons_zero, List.getElem_cons_succ, List.setIfInBounds_toArray, List.set_cons_zero, List.set_cons_succ]
        refine wpAnyH_take (i := 3) (v := ?v3) rfl (by kernel_rfl) (by kernel_rfl) (by kernel_rfl) (fun _ _ _ h => h) (Or.inl ⟨by rfl, ?hy3⟩) (by assumption) ?rest3
        case hy3 => (intro w hSw; (try dsimp only at hSw); go_simp; (try with_reducible rfl))
        simp only [Act.put, List.getElem_toArray, List.getElem_cons_zero, List.getElem_cons_succ, List.setIfInBounds_toArray, List.set_cons_zero, List.set_cons_succ]
        refine wpAnyH_take (i := 4) (v := ?v4) rfl (by kernel_rfl) (by kernel_rfl) (by kernel_rfl) (fun _ _ _ h => h) (Or.inl ⟨by rfl, ?hy4⟩) (by assumption) ?rest4
        case hy4 => (intro w hSw; (try dsimp only at hSw); go_simp; (try with_reducible rfl))
        simp only [Act.put, List.getElem_toArray, List.getElem_cons_zero, List.getElem_cons_succ, List.setIfInBounds_toArray, List.set_cons_zero, List.set_cons_succ]
        refine wpAnyH_take (i := 5) (v := ?v5) rfl (by kernel_rfl) (by kernel_rfl) (by kernel_rfl) (fun _ _ _ h => h) (Or.inl ⟨by rfl, ?hy5⟩) (by assumption) ?rest5
        case hy5 => (intro w hSw; (try dsimp only at hSw); go_simp; (try with_reducible rfl))
        simp only [Act.put, List.getElem_toArray, List.getElem_cons_zero, List.getElem_cons_succ, List.setIfInBounds_toArray, List.set_cons_zero, List.set_cons_succ]
        refine wpAnyH_take (i := 6) (v := ?v6) rfl (by kernel_rfl) (by kernel_rfl) (by kernel_rfl) (fun _ _ _ h => h) (Or.inl ⟨by rfl, ?hy6⟩) (by assumption) ?rest6
        case hy6 => (intro w hSw; (try dsimp only at hSw); go_simp; (try with_reducible rfl))
        simp only [Act.put, List.getElem_toArray, List.getElem_cons_zero, List.getElem_cons_succ, List.setIfInBounds_toArray, List.set_cons_zero, List.set_cons_succ]
        refine wpAnyH_take (i := 7) (v := undef) rfl (by kernel_rfl) (by kernel_rfl) (by kernel_rfl) (fun _ _ _ h => h) (Or.inr ⟨by rfl, rfl⟩) (by assumption) ?_
        simp only [Act.put, List.getElem_toArray, List.getElem_cons_zero, List.getElem_cons_succ, List.setIfInBounds_toArray, List.set_cons_zero, List.set_cons_succ]
        refine wpAnyH_take (i := 8) (v := undef) rfl (by kernel_rfl) (by kernel_rfl) (by kernel_rfl) (fun _ _ _ h => h) (Or.inr ⟨by rfl, rfl⟩) (by assumption) ?_
        simp only [Act.put, List.getElem_toArray, List.getElem_cons_zero, List.getElem_cons_succ, List.setIfInBounds_toArray, List.set_cons_zero, List.set_cons_succ]
        refine wpAnyH_take (i := 9) (v := undef) rfl (by kernel_rfl) (by kernel_rfl) (by kernel_rfl) (fun _ _ _ h => h) (Or.inr ⟨by rfl, rfl⟩) (by assumption) ?_
        simp only [Act.put, List.getElem_toArray, List.getElem_cons_zero, List.getElem_cons_succ, List.setIfInBounds_toArray, List.set_cons_zero, List.set_cons_succ]
        refine wpAnyH_take (i := 10) (v := undef) rfl (by kernel_rfl) (by kernel_rfl) (by kernel_rfl) (fun _ _ _ h => h) (Or.inr ⟨by rfl, rfl⟩) (by assumption) ?_
        simp only [Act.put, List.getElem_toArray, List.getElem_cons_zero, List.getElem_cons_succ, List.setIfInBounds_toArray, List.set_cons_zero, List.set_cons_succ]
        refine wpAnyH_take (i := 11) (v := undef) rfl (by kernel_rfl) (by kernel_rfl) (by kernel_rfl) (fun _ _ _ h => h) (Or.inr ⟨by rfl, rfl⟩) (by assumption) ?_
        simp only [Act.put, List.getElem_toArray, List.getElem_cons_zero, List.getElem_cons_succ, List.setIfInBounds_toArray, List.set_cons_zero, List.set_cons_succ]
        refine wpAnyH_take (i := 12) (v := undef) rfl (by kernel_rfl) (by kernel_rfl) (by kernel_rfl) (fun _ _ _ h => h) (Or.inr ⟨by rfl, rfl⟩) (by assumption) ?_
        simp only [Act.put, List.getElem_toArray, List.getElem_cons_zero, List.getElem_cons_succ, List.setIfInBounds_toArray, List.set_cons_zero, List.set_cons_succ]
        refine wpAnyH_take (i := 13) (v := undef) rfl (by kernel_rfl) (by kernel_rfl) (by kernel_rfl) (fun _ _ _ h => h) (Or.inr ⟨by rfl, rfl⟩) (by assumption) ?_
        simp only [Act.put, List.getElem_toArray, List.getElem_cons_zero, List.getElem_cons_succ, List.setIfInBounds_toArray, List.set_cons_zero, List.set_cons_succ]
        refine wpAnyH_take (i := 14) (v := undef) rfl (by kernel_rfl) (by kernel_rfl) (by kernel_rfl) (fun _ _ _ h => h) (Or.inr ⟨by rfl, rfl⟩) (by assumption) ?_
        simp only [Act.put, List.getElem_toArray, List.getElem_cons_zero, List.getElem_cons_succ, List.setIfInBounds_toArray, List.set_cons_zero, List.set_cons_succ]
        refine wpAnyH_take (i := 15) (v := ?v7) rfl (by kernel_rfl) (by kernel_rfl) (by kernel_rfl) (fun _ _ _ h => h) (Or.inl ⟨by rfl, ?hy7⟩) (by assumption) ?rest7
        case hy7 => (intro w hSw; (try dsimp only at hSw); go_simp; (try with_reducible rfl))
        simp only [Act.put, List.getElem_toArray, List.getElem_cons_zero, List.getElem_cons_succ, List.setIfInBounds_toArray, List.set_cons_zero, List.set_cons_succ]
        refine wpAnyH_take (i := 16) (v := ?v8) rfl (by kernel_rfl) (by kernel_rfl) (by kernel_rfl) (fun _ _ _ h => h) (Or.inl ⟨by rfl, ?hy8⟩) (by assumption) ?rest8
        case hy8 => (intro w hSw; (try dsimp only at hSw); go_simp; (try with_reducible rfl))
        simp only [Act.put, List.getElem_toArray, List.getElem_cons_zero, List.getElem_cons_succ, List.setIfInBounds_toArray, List.set_cons_zero, List.set_cons_succ]
        refine wpAnyH_done (by kernel_rfl) ?_ _
        go_wp2
        go_roundw
        case rel => exact ⟨k + 1, by omega, by go_num, by go_grown⟩
        case measure => simp [intOf]; omega
      · have hokl := hokk.2 (by omega)
        obtain ⟨x', y', hxy'⟩ : ∃ x y, xs.getD (k - 1) (0, 0) = (x, y) := ⟨_, _, rfl⟩
        have cx' : wr.cell? ⟨g1, (k - 1) * 2, none⟩ = _ := (hB.cell (p := ⟨g1, (k - 1) * 2, none⟩) (World.block_lt_of_cell? w _ (X.out (k - 1) (by omega)))).trans (X.out (k - 1) (by omega))
        have cy' : wr.cell? ⟨g1, (k - 1) * 2 + 1, none⟩ = _ := (hB.cell (p := ⟨g1, (k - 1) * 2 + 1, none⟩) (World.block_lt_of_cell? w _ (Y.out (k - 1) (by omega)))).trans (Y.out (k - 1) (by omega))
        rw [hxy'] at cx' cy'
        simp only at cx' cy'
        have hk1 : IntKind.i64.wrap ((k : Int) - 1) = ((k - 1 : Nat) : Int) := by rw [IntKind.wrap_i64]; omega
        have hk2 : 0 ≤ ((k - 1 : Nat) : Int) := by omega
        have hk3 : ((k - 1 : Nat) : Int) < (xs.length : Int) := by omega
        have hk4 : 0 < k := by omega
        rw [hxy'] at hokl
        have hle := hokl
        have HL := Lib.hid (hle)
        clear hokk hokl hxy hxy' hle
        go_wp2
        go_region_held3 (fun w' => w'.cell? ⟨wr.heap.size, 0, none⟩ = some (.int .i64 x) ∧ w'.cell? ⟨wr.heap.size, 1, none⟩ = some (.int .i64 y) ∧ w'.cell? ⟨g1, (k - 1) * 2, none⟩ = some (.int .i64 x') ∧ w'.cell? ⟨g1, (k - 1) * 2 + 1, none⟩ = some (.int .i64 y')) (go_keep)
          (first | (go_at_call 112; (with_reducible refine (sgThread_yes x y _ HO.out).mono ?_); rintro e w1 ⟨rfl, hb⟩; (have c0 : w1.cell? ⟨wr.heap.size, 0, none⟩ = some (.int .i64 x) := cellB hb (by first | assumption | go_simp)); (have c1 : w1.cell? ⟨wr.heap.size, 1, none⟩ = some (.int .i64 y) := cellB hb (by first | assumption | go_simp)); (have hz1 : wr.heap.size < w1.heap.size := by (have := hb.size; (try simp at this); omega)); (have hB2 : Below w.heap.size w w1 := by (refine Below.trans ?_ (hb.mono (by first | omega | (simp; omega))); go_grown)); (have e0 : w1.cell? ⟨g1, (k - 1) * 2, none⟩ = some (.int .i64 x') := cellB hb (by first | assumption | go_simp)); (have e1 : w1.cell? ⟨g1, (k - 1) * 2 + 1, none⟩ = some (.int .i64 y') := cellB hb (by first | assumption | go_simp))) | (go_at_call 113; (with_reducible refine (sgLess_any x' y' x y _).mono ?_); rintro e w1 ⟨rfl, hb⟩; rw [HL.out]; (have c0 : w1.cell? ⟨wr.heap.size, 0, none⟩ = some (.int .i64 x) := cellB hb (by first | assumption | go_simp)); (have c1 : w1.cell? ⟨wr.heap.size, 1, none⟩ = some (.int .i64 y) := cellB hb (by first | assumption | go_simp)); (have hz1 : wr.heap.size < w1.heap.size := by (have := hb.size; (try simp at this); omega)); (have hB2 : Below w.heap.size w w1 := by (refine Below.trans ?_ (hb.mono (by first | omega | (simp; omega))); go_grown)); (have e0 : w1.cell? ⟨g1, (k - 1) * 2, none⟩ = some (.int .i64 x') := cellB hb (by first | assumption | go_simp)); (have e1 : w1.cell? ⟨g1, (k - 1) * 2 + 1, none⟩ = some (.int .i64 y') := cellB hb (by first | assumption | go_simp))))
        go_wp2
        go_roundw
        case rel => exact ⟨k + 1, by omega, by go_num, by go_grown⟩
        case measure => simp [intOf]; omega
    · obtain rfl : k = m := by omega
      rcases HE.out with ⟨rfl, rfl⟩ | ⟨hlt2, rfl, hbad⟩
      · go_wp2
        go_ret
        exact ⟨rfl, hB⟩
      clear hlt hm
      obtain ⟨x, y, hxy⟩ : ∃ x y, xs.getD k (0, 0) = (x, y) := ⟨_, _, rfl⟩
      obtain rfl := HA.out (by omega)
      have cx : wr.cell? ⟨g1, k * 2, none⟩ = _ := (hB.cell (p := ⟨g1, k * 2, none⟩) (World.block_lt_of_cell? w _ (X.out k (by omega)))).trans (X.out k (by omega))
      have cy : wr.cell? ⟨g1, k * 2 + 1, none⟩ = _ := (hB.cell (p := ⟨g1, k * 2 + 1, none⟩) (World.block_lt_of_cell? w _ (Y.out k (by omega)))).trans (Y.out k (by omega))
      rw [hxy] at cx cy
      simp only at cx cy
      unfold okT at hbad
      rw [hxy] at hbad
      by_cases hi : isT x y
      · have HO := Lib.hid hi
        have hk0 : ¬ k = 0 := fun e => hbad ⟨hi, fun h => by omega⟩
        obtain ⟨x', y', hxy'⟩ : ∃ x y, xs.getD (k - 1) (0, 0) = (x, y) := ⟨_, _, rfl⟩
        have cx' : wr.cell? ⟨g1, (k - 1) * 2, none⟩ = _ := (hB.cell (p := ⟨g1, (k - 1) * 2, none⟩) (World.block_lt_of_cell? w _ (X.out (k - 1) (by omega)))).trans (X.out (k - 1) (by omega))
        have cy' : wr.cell? ⟨g1, (k - 1) * 2 + 1, none⟩ = _ := (hB.cell (p := ⟨g1, (k - 1) * 2 + 1, none⟩) (World.block_lt_of_cell? w _ (Y.out (k - 1) (by omega)))).trans (Y.out (k - 1) (by omega))
        rw [hxy'] at cx' cy'
        simp only at cx' cy'
        have hk1 : IntKind.i64.wrap ((k : Int) - 1) = ((k - 1 : Nat) : Int) := by rw [IntKind.wrap_i64]; omega
        have hk2 : 0 ≤ ((k - 1 : Nat) : Int) := by omega
        have hk3 : ((k - 1 : Nat) : Int) < (xs.length : Int) := by omega
        have hk4 : 0 < k := by omega
        rw [hxy'] at hbad
        have hle : lessC (x', y') (x, y) = false := by
          cases e : lessC (x', y') (x, y) with
          | false => rfl
          | true => exact absurd ⟨hi, fun _ => e⟩ hbad
        clear hbad hxy hxy' hi
        have HL := Lib.hid hle
        clear hle
        go_wp2
        go_region_held3 (fun w' => w'.cell? ⟨wr.heap.size, 0, none⟩ = some (.int .i64 x) ∧ w'.cell? ⟨wr.heap.size, 1, none⟩ = some (.int .i64 y) ∧ w'.cell? ⟨g1, (k - 1) * 2, none⟩ = some (.int .i64 x') ∧ w'.cell? ⟨g1, (k - 1) * 2 + 1, none⟩ = some (.int .i64 y')) (go_keep)
          (first | (go_at_call 112; (with_reducible refine (sgThread_yes x y _ HO.out).mono ?_); rintro e w1 ⟨rfl, hb⟩; (have c0 : w1.cell? ⟨wr.heap.size, 0, none⟩ = some (.int .i64 x) := cellB hb (by first | assumption | go_simp)); (have c1 : w1.cell? ⟨wr.heap.size, 1, none⟩ = some (.int .i64 y) := cellB hb (by first | assumption | go_simp)); (have hz1 : wr.heap.size < w1.heap.size := by (have := hb.size; (try simp at this); omega)); (have hB2 : Below w.heap.size w w1 := by (refine Below.trans ?_ (hb.mono (by first | omega | (simp; omega))); go_grown)); (have e0 : w1.cell? ⟨g1, (k - 1) * 2, none⟩ = some (.int .i64 x') := cellB hb (by first | assumption | go_simp)); (have e1 : w1.cell? ⟨g1, (k - 1) * 2 + 1, none⟩ = some (.int .i64 y') := cellB hb (by first | assumption | go_simp))) | (go_at_call 113; (with_reducible refine (sgLess_any x' y' x y _).mono ?_); rintro e w1 ⟨rfl, hb⟩; rw [HL.out]; (have c0 : w1.cell? ⟨wr.heap.size, 0, none⟩ = some (.int .i64 x) := cellB hb (by first | assumption | go_simp)); (have c1 : w1.cell? ⟨wr.heap.size, 1, none⟩ = some (.int .i64 y) := cellB hb (by first | assumption | go_simp)); (have hz1 : wr.heap.size < w1.heap.size := by (have := hb.size; (try simp at this); omega)); (have hB2 : Below w.heap.size w w1 := by (refine Below.trans ?_ (hb.mono (by first | omega | (simp; omega))); go_grown)); (have e0 : w1.cell? ⟨g1, (k - 1) * 2, none⟩ = some (.int .i64 x') := cellB hb (by first | assumption | go_simp)); (have e1 : w1.cell? ⟨g1, (k - 1) * 2 + 1, none⟩ = some (.int .i64 y') := cellB hb (by first | assumption | go_simp))))
        go_wp2
        go_ret
        exact ⟨rfl, by go_grown⟩
      · have HO := Lib.hid hi
        clear hbad hxy hi X Y HOK HA HE
        go_wp2
        refine wp_region_held_drew (S := fun w' => w'.cell? ⟨wr.heap.size, 0, none⟩ = some (.int .i64 x) ∧ w'.cell? ⟨wr.heap.size, 1, none⟩ = some (.int .i64 y)) (by kernel_rfl) (by (try dsimp only); go_keep) (fun hHeld => ?_)
        refine wpAnyH_take (i := 0) (v := ?v9) rfl (by kernel_rfl) (by kernel_rfl) (by kernel_rfl) (fun _ _ _ h => h) (Or.inl ⟨by rfl, ?hy9⟩) (by assumption) ?rest9
        case hy9 => (intro w hSw; (try dsimp only at hSw); go_simp; (try with_reducible rfl))
        simp only [Act.put, List.getElem_toArray, List.getElem_cons_zero, List.setIfInBounds_toArray, List.set_cons_zero, List.set_cons_succ]
        refine wpAnyH_ready (rs := [1]) (by kernel_rfl) (by simp) ?_
        refine AllReadyH.cons rfl (fun K hK => ?_) AllReadyH.nil
        simp only [List.getElem_toArray, List.getElem_cons_zero, List.getElem_cons_succ]
        go_simp
        (go_at_call 112; (with_reducible refine (sgThread_no x y _ HO.out).mono ?_); rintro e w1 ⟨rfl, hb⟩; (have c0 : w1.cell? ⟨wr.heap.size, 0, none⟩ = some (.int .i64 x) := cellB hb (by first | assumption | go_simp)); (have c1 : w1.cell? ⟨wr.heap.size, 1, none⟩ = some (.int .i64 y) := cellB hb (by first | assumption | go_simp)); (have hz1 : wr.heap.size < w1.heap.size := by (have := hb.size; (try simp at this); omega)); (have hB2 : Below w.heap.size w w1 := by (refine Below.trans ?_ (hb.mono (by first | omega | (simp; omega))); go_grown)))
        go_wp2_with fail
        refine hK.out _ _ (by (try dsimp only); go_keep) (fun hHeld => ?_)
        clear hK K
        refine wpAnyH_take (i := 2) (v := ?v10) rfl (by kernel_rfl) (by kernel_rfl) (by kernel_rfl) (fun _ _ _ h => h) (Or.inl ⟨by rfl, ?hy10⟩) (by assumption) ?rest10
        case hy10 => (intro w hSw; (try dsimp only at hSw); go_simp; (try with_reducible rfl))
        simp only [Act.put, List.getElem_toArray, List.getElem_cons_zero, List.getElem_cons_succ, List.setIfInBounds_toArray, List.set_cons_zero, List.set_cons_succ]
        refine wpAnyH_take (i := 3) (v := ?v11) rfl (by kernel_rfl) (by kernel_rfl) (by kernel_rfl) (fun _ _ _ h => h) (Or.inl ⟨by rfl, ?hy11⟩) (by assumption) ?rest11
        case hy11 => (intro w hSw; (try dsimp only at hSw); go_simp; (try with_reducible rfl))
        simp only [Act.put, List.getElem_toArray, List.getElem_cons_zero, List.getElem_cons_succ, List.setIfInBounds_toArray, List.set_cons_zero, List.set_cons_succ]
        refine wpAnyH_take (i := 4) (v := undef) rfl (by kernel_rfl) (by kernel_rfl) (by kernel_rfl) (fun _ _ _ h => h) (Or.inr ⟨by rfl, rfl⟩) (by assumption) ?_
        simp only [Act.put, List.getElem_toArray, List.getElem_cons_zero, List.getElem_cons_succ, List.setIfInBounds_toArray, List.set_cons_zero, List.set_cons_succ]
        refine wpAnyH_take (i := 5) (v := undef) rfl (by kernel_rfl) (by kernel_rfl) (by kernel_rfl) (fun _ _ _ h => h) (Or.inr ⟨by rfl, rfl⟩) (by assumption) ?_
        simp only [Act.put, List.getElem_toArray, List.getElem_cons_zero, List.getElem_cons_succ, List.setIfInBounds_toArray, List.set_cons_zero, List.set_cons_succ]
        refine wpAnyH_take (i := 6) (v := undef) rfl (by kernel_rfl) (by kernel_rfl) (by kernel_rfl) (fun _ _ _ h => h) (Or.inr ⟨by rfl, rfl⟩) (by assumption) ?_
        simp only [Act.put, List.getElem_toArray, List.getElem_cons_zero, List.getElem_cons_succ, List.setIfInBounds_toArray, List.set_cons_zero, List.set_cons_succ]
        refine wpAnyH_take (i := 7) (v := undef) rfl (by kernel_rfl) (by kernel_rfl) (by kernel_rfl) (fun _ _ _ h => h) (Or.inr ⟨by rfl, rfl⟩) (by assumption) ?_
        simp only [Act.put, List.getElem_toArray, List.getElem_cons_zero, List.getElem_cons_succ, List.setIfInBounds_toArray, List.set_cons_zero, List.set_cons_succ]
        refine wpAnyH_take (i := 8) (v := undef) rfl (by kernel_rfl) (by kernel_rfl) (by kernel_rfl) (fun _ _ _ h => h) (Or.inr ⟨by rfl, rfl⟩) (by assumption) ?_
        simp only [Act.put, List.getElem_toArray, List.getElem_cons_zero, List.getElem_cons_succ, List.setIfInBounds_toArray, List.set_cons_zero, List.set_cons_succ]
        refine wpAnyH_take (i := 9) (v := undef) rfl (by kernel_rfl) (by kernel_rfl) (by kernel_rfl) (fun _ _ _ h => h) (Or.inr ⟨by rfl, rfl⟩) (by assumption) ?_
        simp only [Act.put, List.getElem_toArray, List.getElem_cons_zero, List.getElem_cons_succ, List.setIfInBounds_toArray, List.set_cons_zero, List.set_cons_succ]
        refine wpAnyH_take (i := 10) (v := undef) rfl (by kernel_rfl) (by kernel_rfl) (by kernel_rfl) (fun _ _ _ h => h) (Or.inr ⟨by rfl, rfl⟩) (by assumption) ?_
        simp only [Act.put, List.getElem_toArray, List.getElem_cons_zero, List.getElem_cons_succ, List.setIfInBounds_toArray, List.set_cons_zero, List.set_cons_succ]
        refine wpAnyH_take (i := 11) (v := undef) rfl (by kernel_rfl) (by kernel_rfl) (by kernel_rfl) (fun _ _ _ h => h) (Or.inr ⟨by rfl, rfl⟩) (by assumption) ?_
        simp only [Act.put, List.getElem_toArray, List.getElem_cons_zero, List.getElem_cons_succ, List.setIfInBounds_toArray, List.set_cons_zero, List.set_cons_succ]
        refine wpAnyH_take (i := 12) (v := undef) rfl (by kernel_rfl) (by kernel_rfl) (by kernel_rfl) (fun _ _ _ h => h) (Or.inr ⟨by rfl, rfl⟩) (by assumption) ?_
        simp only [Act.put, List.getElem_toArray, List.getElem_cons_zero, List.getElem_cons_succ, List.setIfInBounds_toArray, List.set_cons_zero, List.set_cons_succ]
        refine wpAnyH_take (i := 13) (v := undef) rfl (by kernel_rfl) (by kernel_rfl) (by kernel_rfl) (fun _ _ _ h => h) (Or.inr ⟨by rfl, rfl⟩) (by assumption) ?_
        simp only [Act.put, List.getElem_toArray, List.getElem_cons_zero, List.getElem_cons_succ, List.setIfInBounds_toArray, List.set_cons_zero, List.set_cons_succ]
        refine wpAnyH_take (i := 14) (v := undef) rfl (by kernel_rfl) (by kernel_rfl) (by kernel_rfl) (fun _ _ _ h => h) (Or.inr ⟨by rfl, rfl⟩) (by assumption) ?_
        simp only [Act.put, List.getElem_toArray, List.getElem_cons_zero, List.getElem_cons_succ, List.setIfInBounds_toArray, List.set_cons_zero, List.set_cons_succ]
        refine wpAnyH_take (i := 15) (v := undef) rfl (by kernel_rfl) (by kernel_rfl) (by kernel_rfl) (fun _ _ _ h => h) (Or.inr ⟨by rfl, rfl⟩) (by assumption) ?_
        simp only [Act.put, List.getElem_toArray, List.getElem_cons_zero, List.getElem_cons_succ, List.setIfInBounds_toArray, List.set_cons_zero, List.set_cons_succ]
        refine wpAnyH_take (i := 16) (v := ?v12) rfl (by kernel_rfl) (by kernel_rfl) (by kernel_rfl) (fun _ _ _ h => h) (Or.inl ⟨by rfl, ?hy12⟩) (by assumption) ?rest12
        case hy12 => (intro w hSw; (try dsimp only at hSw); go_simp; (try with_reducible rfl))
        simp only [Act.put, List.getElem_toArray, List.getElem_cons_zero, List.getElem_cons_succ, List.setIfInBounds_toArray, List.set_cons_zero, List.set_cons_succ]
        refine wpAnyH_done (by kernel_rfl) ?_ _
        go_wp2
        go_ret
        exact ⟨rfl, by go_grown⟩

theorem sgGood_yes (v : Value) (xs : List (Int × Int)) (B T : Nat) (w : World) (h : PairsIn 83 w B T v xs) (hg : goodT xs) : Calls Try.prog 60 #[v] w fun e w' => e = .returned (.bool true) ∧ Below w.heap.size w w' := by
  exact sgGood_end v xs B T w h xs.length true hg.1 (Nat.le_refl _) hg.2 (.inl ⟨rfl, rfl⟩)

set_option maxHeartbeats 400000 in
theorem sgGood_noS (v : Value) (xs : List (Int × Int)) (B T : Nat) (w : World) (h : PairsIn 83 w B T v xs) (hl : xs.length < 1) : Calls Try.prog 60 #[v] w fun e w' => e = .returned (.bool false) ∧ Below w.heap.size w w' := by
  obtain ⟨a1, c1, g1, rfl, _⟩ := h.pairs.view
  clear h
  go_enter Try.func60, Try.ntmps60
  go_wp2_with (first | (go_at_call 50; (with_reducible refine (l1In_no _ _ _ _ (by omega)).mono ?_); rintro e w1 ⟨rfl, rfl⟩))
  go_ret
  exact ⟨rfl, by go_grown⟩

set_option maxHeartbeats 400000 in
theorem sgGood_noL (v : Value) (xs : List (Int × Int)) (B T : Nat) (w : World) (h : PairsIn 83 w B T v xs) (hl : 30 < xs.length) : Calls Try.prog 60 #[v] w fun e w' => e = .returned (.bool false) ∧ Below w.heap.size w w' := by
  obtain ⟨a1, c1, g1, rfl, _⟩ := h.pairs.view
  clear h
  go_enter Try.func60, Try.ntmps60
  go_wp2_with (first | (go_at_call 50; (with_reducible refine (l1In_no _ _ _ _ (by omega)).mono ?_); rintro e w1 ⟨rfl, rfl⟩))
  go_ret
  exact ⟨rfl, by go_grown⟩

theorem sgGood_no (v : Value) (xs : List (Int × Int)) (B T : Nat) (w : World) (h : PairsIn 83 w B T v xs) (hg : ¬ goodT xs) : Calls Try.prog 60 #[v] w fun e w' => e = .returned (.bool false) ∧ Below w.heap.size w w' := by
  rcases not_goodT hg with hl | hl | ⟨hl, m, hm, hb, hok⟩
  · exact sgGood_noS v xs B T w h hl
  · exact sgGood_noL v xs B T w h hl
  · exact sgGood_end v xs B T w h m false hl (Nat.le_of_lt hm) hok (.inr ⟨hm, rfl, hb⟩)

end Go.Proofs.Ytnldnjgnpdicnaa
