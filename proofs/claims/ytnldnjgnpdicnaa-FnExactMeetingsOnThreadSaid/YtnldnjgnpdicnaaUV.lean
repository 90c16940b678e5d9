/- What the laws do with slices of threads. -/
import Derived.Test.YtnldnjgnpdicnaaRows
import Derived.Test.YtnldnjgnpdicnaaBA
import Derived.Deep.RegionHeld3
namespace Go.Proofs.Ytnldnjgnpdicnaa
open Go.RowKit

set_option maxHeartbeats 400000 in
theorem eqThread_same (a b : Int) (w : World) :
    Calls Try.prog 71 #[.agg #[.int .i64 a, .int .i64 b], .agg #[.int .i64 a, .int .i64 b]] w fun e w' => e = .returned (.bool true) ∧ Below w.heap.size w w' := by
  go_enter Try.func71, Try.ntmps71
  go_wp2
  go_ret
  exact ⟨rfl, by go_grown⟩

set_option maxHeartbeats 400000 in
theorem eqThreadS_in (v1 v2 : Value) (xs : List (Int × Int)) (B1 T1 B2 T2 : Nat) (e : TypeId) (w : World) (h1 : PairsIn e w B1 T1 v1 xs) (h2 : PairsIn e w B2 T2 v2 xs) :
    Calls Try.prog 18 #[v1, v2] w fun e w' => e = .returned (.bool true) ∧ Below w.heap.size w w' := by
  obtain ⟨a1, c1, g1, rfl, ha1, hm, hx1, hy1⟩ := h1.pairs.view
  obtain ⟨a2, c2, g2, rfl, ha2, _, hx2, hy2⟩ := h2.pairs.view
  clear h1 h2
  unfold maxLen at hm
  have X1 := Lib.hid hx1
  have X2 := Lib.hid hx2
  have Y1 := Lib.hid hy1
  have Y2 := Lib.hid hy2
  have HA1 := Lib.hid ha1
  have HA2 := Lib.hid ha2
  clear hx1 hx2 hy1 hy2 ha1 ha2
  go_enter Try.func18, Try.ntmps18
  go_wp2
  go_loopw [5] (fun i wr => ∃ k : Nat, k ≤ xs.length ∧ i = .int .i64 k ∧ Below w.heap.size w wr) (fun i _ => xs.length - (intOf i).toNat)
  case atStart => exact ⟨0, by omega, rfl, Below.refl _ _⟩
  case round =>
    obtain ⟨k, hk, rfl, hB⟩ := hrel
    by_cases hlt : k < xs.length
    · obtain rfl := HA1.out (by omega)
      obtain rfl := HA2.out (by omega)
      have hz := hB.size
      have cx1 : wr.cell? ⟨g1, k * 2, none⟩ = some (.int .i64 (xs.getD k (0, 0)).1) := (hB.cell (p := ⟨g1, k * 2, none⟩) (World.block_lt_of_cell? w _ (X1.out k hlt))).trans (X1.out k hlt)
      have cx2 : wr.cell? ⟨g2, k * 2, none⟩ = some (.int .i64 (xs.getD k (0, 0)).1) := (hB.cell (p := ⟨g2, k * 2, none⟩) (World.block_lt_of_cell? w _ (X2.out k hlt))).trans (X2.out k hlt)
      have cy1 : wr.cell? ⟨g1, k * 2 + 1, none⟩ = some (.int .i64 (xs.getD k (0, 0)).2) := (hB.cell (p := ⟨g1, k * 2 + 1, none⟩) (World.block_lt_of_cell? w _ (Y1.out k hlt))).trans (Y1.out k hlt)
      have cy2 : wr.cell? ⟨g2, k * 2 + 1, none⟩ = some (.int .i64 (xs.getD k (0, 0)).2) := (hB.cell (p := ⟨g2, k * 2 + 1, none⟩) (World.block_lt_of_cell? w _ (Y2.out k hlt))).trans (Y2.out k hlt)
      generalize (xs.getD k (0, 0)).1 = x at *
      generalize (xs.getD k (0, 0)).2 = y at *
      have hi1 : 0 ≤ (k : Int) := by omega
      have hi2 : (k : Int) < (xs.length : Int) := by omega
      go_wp2
      go_region_held3 (fun w' => w'.cell? ⟨g1, k * 2, none⟩ = some (.int .i64 x) ∧ w'.cell? ⟨g2, k * 2, none⟩ = some (.int .i64 x) ∧ w'.cell? ⟨g1, k * 2 + 1, none⟩ = some (.int .i64 y) ∧ w'.cell? ⟨g2, k * 2 + 1, none⟩ = some (.int .i64 y)) (go_keep)
        (first | (go_at_call 71; refine (eqThread_same _ _ _).mono ?_; rintro e w1 ⟨rfl, hb⟩; have d1 := cellB hb cx1; have d2 := cellB hb cx2; have d3 := cellB hb cy1; have d4 := cellB hb cy2; (have hB2 : Below w.heap.size w w1 := by (refine Below.trans ?_ (hb.mono (by first | exact hz | (simp; omega))); go_grown))))
      go_wp2
      go_roundw
      case rel => exact ⟨k + 1, by omega, by go_num, hB2⟩
      case measure => simp [intOf]; omega
    · go_wp2
      go_ret
      exact ⟨rfl, hB⟩

set_option maxHeartbeats 400000 in
theorem markThreadS_in (v : Value) (xs : List (Int × Int)) (m : Int) (B T : Nat) (e : TypeId) (w : World) (h : PairsIn e w B T v xs) (hm1 : 0 ≤ m) (hm2 : m ≤ 1000000000) (hn : xs.length ≤ 1000000000) :
    Calls Try.prog 19 #[v, .int .i64 m] w fun e' w' => e' = .returned (.int .i64 (m + 2 * xs.length)) ∧ PairsIn e w' B T v (markP m xs.length) ∧ Only B T w w' := by
  obtain ⟨a1, c1, g1, hv, ha1, _, _, _⟩ := h.pairs.view
  have hown := h.own
  have htop := h.2
  have hp := h.pairs
  rw [hv] at hp hown htop ⊢
  have HA := Lib.hid ha1
  have HI := Lib.hid hp
  have HO := Lib.hid hown
  have HT := Lib.hid htop
  clear ha1 hp h hown htop
  go_enter Try.func19, Try.ntmps19
  go_wp2
  go_loopw [1, 5] (fun u i wr => ∃ k : Nat, k ≤ xs.length ∧ i = .int .i64 k ∧ u = .int .i64 (m + 2 * (k : Int)) ∧ Pairs wr B e (.slice a1 xs.length c1) (markedP m xs k) ∧ w.grownBy wr (Value.slice a1 xs.length c1).ownBlock) (fun _ i _ => xs.length - (intOf i).toNat)
  case atStart => exact ⟨0, by omega, rfl, by simp, by rw [markedP_zero]; exact HI.out, grownBy_refl _ _⟩
  case round =>
    obtain ⟨k, hk, rfl, rfl, hI, hg⟩ := hrel
    by_cases hlt : k < xs.length
    · obtain rfl := HA.out (by omega)
      have hl := markedP_length m xs k hk
      have s0 := hI.stored0 k (m + 2 * (k : Int))
      have s1 := s0.1.stored1 k (m + 2 * (k : Int) + 1)
      have e1 : ((markedP m xs k).set k (m + 2 * (k : Int), ((markedP m xs k).getD k (0, 0)).2)).set k ((((markedP m xs k).set k (m + 2 * (k : Int), ((markedP m xs k).getD k (0, 0)).2)).getD k (0, 0)).1, m + 2 * (k : Int) + 1) = markedP m xs (k + 1) := by
        rw [List.set_set, List.getD_eq_getElem?_getD (l := (markedP m xs k).set k _), List.getElem?_set_self (by omega)]
        exact markedP_set m xs k hlt
      rw [e1] at s1
      have cx := hI.cell0 k (by omega)
      have cy := hI.cell1 k (by omega)
      have ff := hI.frozenAt
      have S1 := Lib.hid s1
      have S0 := Lib.hid s0.2
      generalize ((markedP m xs k).getD k (0, 0)).1 = x at *
      generalize ((markedP m xs k).getD k (0, 0)).2 = y at *
      have f0 := ff (k * 2)
      have f1 := ff (k * 2 + 1)
      clear s0 s1 e1 ff hI hl
      go_wp2
      go_roundw
      case rel => exact ⟨k + 1, by omega, by go_num, by simp; omega, S1.out.1, grownBy_trans (grownBy_trans hg S0.out) S1.out.2⟩
      case measure => simp [intOf]; omega
    · obtain rfl : k = xs.length := by omega
      rw [markedP_all] at hI
      go_wp2
      go_ret
      exact ⟨rfl, ⟨hI, HT.out⟩, Only.of_grown hg HO.out⟩

end Go.Proofs.Ytnldnjgnpdicnaa
