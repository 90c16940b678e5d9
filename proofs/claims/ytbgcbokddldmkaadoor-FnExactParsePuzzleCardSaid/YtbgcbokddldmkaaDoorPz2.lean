/- Texts of puzzles: the model's. -/
import Derived.Test.YtbgcbokddldmkaaDoorPz1
import Derived.Test.YtbgcbokddldmkaaDoorUN
import Derived.Test.YtbgcbokddldmkaaDoorXZ
import Derived.Test.YtbgcbokddldmkaaDoorX7
import Derived.Deep.RegionHeld3
namespace Go.Proofs.YtbgcbokddldmkaaDoor
open Go.RowKit
set_option linter.unusedVariables false

theorem strAdd5 (tk x y z : ByteArray) (h : tk.size ≤ 1000) (hx : x.size ≤ 3) (hy : y.size ≤ 3) (hz : z.size ≤ 3) :
    Op.stringOp .add x ⟨#[46]⟩ = pure (.string (x ++ ⟨#[46]⟩)) ∧ Op.stringOp .add (x ++ ⟨#[46]⟩) y = pure (.string (x ++ ⟨#[46]⟩ ++ y)) ∧ Op.stringOp .add (x ++ ⟨#[46]⟩ ++ y) ⟨#[46]⟩ = pure (.string (x ++ ⟨#[46]⟩ ++ y ++ ⟨#[46]⟩)) ∧
      Op.stringOp .add (x ++ ⟨#[46]⟩ ++ y ++ ⟨#[46]⟩) z = pure (.string (x ++ ⟨#[46]⟩ ++ y ++ ⟨#[46]⟩ ++ z)) ∧ Op.stringOp .add tk (x ++ ⟨#[46]⟩ ++ y ++ ⟨#[46]⟩ ++ z) = pure (.string (tk ++ (x ++ ⟨#[46]⟩ ++ y ++ ⟨#[46]⟩ ++ z))) := by
  have s1 : (⟨#[46]⟩ : ByteArray).size = 1 := rfl
  refine ⟨strAdd _ _ ?_, strAdd _ _ ?_, strAdd _ _ ?_, strAdd _ _ ?_, strAdd _ _ ?_⟩ <;> (try simp only [ByteArray.size_append]) <;> omega

theorem small_of {xs : List Tri} (hg : ∀ k, k < xs.length → (0 ≤ (xs.getD k noT).1 ∧ (xs.getD k noT).1 < 1000) ∧ (0 ≤ (xs.getD k noT).2.1 ∧ (xs.getD k noT).2.1 < 1000) ∧ (0 ≤ (xs.getD k noT).2.2 ∧ (xs.getD k noT).2.2 < 1000)) : SmallT xs := fun k => by
  by_cases hk : k < xs.length
  · have := hg k hk
    omega
  · rw [List.getD_eq_getElem?_getD, List.getElem?_eq_none (by omega)]
    simp [noT]

theorem puzzle_small {xs : List Tri} (hP : puzzleP xs) : ∀ k, k < xs.length → (0 ≤ (xs.getD k noT).1 ∧ (xs.getD k noT).1 < 1000) ∧ (0 ≤ (xs.getD k noT).2.1 ∧ (xs.getD k noT).2.1 < 1000) ∧ (0 ≤ (xs.getD k noT).2.2 ∧ (xs.getD k noT).2.2 < 1000) := by
  intro k hk
  have h := hP.2 k hk
  obtain ⟨a, b, c, habc⟩ : ∃ a b c, xs.getD k noT = (a, b, c) := ⟨_, _, _, rfl⟩
  rw [habc] at h ⊢
  rw [clueP_iff] at h
  obtain ⟨⟨h1, h2⟩, ⟨g0, g1, g2, g3, g4, g5⟩, hb⟩ := h
  simp only
  rcases (show a = 0 ∨ a = 1 ∨ a = 2 ∨ a = 3 ∨ a = 4 ∨ a = 5 by omega) with rfl | rfl | rfl | rfl | rfl | rfl
  · have := g0 rfl; have := hb (by omega); omega
  · have := g1 rfl; have := hb (by omega); omega
  · have := g2 rfl; have := hb (by omega); omega
  · have := g3 rfl; have := hb (by omega); omega
  · have := g4 rfl; omega
  · have := g5 rfl; have := hb (by omega); omega

set_option maxHeartbeats 4000000 in
set_option maxRecDepth 100000 in
theorem pzText_any (u : Value) (xs : List Tri) (w : World) (hx : SrcT w u xs) (hn : xs.length ≤ 30) (hg : ∀ k, k < xs.length → (0 ≤ (xs.getD k noT).1 ∧ (xs.getD k noT).1 < 1000) ∧ (0 ≤ (xs.getD k noT).2.1 ∧ (xs.getD k noT).2.1 < 1000) ∧ (0 ≤ (xs.getD k noT).2.2 ∧ (xs.getD k noT).2.2 < 1000)) :
    Calls Tryd.prog 72 #[.agg #[u]] w fun e w' => e = .returned (.string (ptextB xs xs.length)) ∧ Below w.heap.size w w' := by
  obtain ⟨a0, cap, g, off, rfl, ha, _, _, hcs⟩ := hx.form
  have X := Lib.hid hcs
  have HA := Lib.hid ha
  have HG := Lib.hid hg
  have HSM := Lib.hid (small_of hg)
  clear hx ha hcs hg
  go_enter Tryd.func72, Tryd.ntmps72
  go_wp2
  go_loopw [3, 9] (fun s i wr => ∃ k : Nat, k ≤ xs.length ∧ i = .int .i64 k ∧ s = .string (ptextB xs k) ∧ Below w.heap.size w wr) (fun _ i _ => xs.length - (intOf i).toNat)
  case atStart => exact ⟨0, by omega, rfl, rfl, by go_grown⟩
  case round =>
    obtain ⟨k, hk, rfl, rfl, hB⟩ := hrel
    by_cases hlt : k < xs.length
    · obtain rfl := HA.out (by omega)
      have hz := hB.size
      have cx := cellB hB (X.out k hlt).1
      have cy := cellB hB (X.out k hlt).2.1
      have cz := cellB hB (X.out k hlt).2.2
      obtain ⟨b1, b2, b3⟩ := HG.out k hlt
      have hstep : ptextB xs (k + 1) = (if k = 0 then ptextB xs k else ptextB xs k ++ ⟨#[44]⟩) ++ (dB (xs.getD k noT).1.toNat ++ ⟨#[46]⟩ ++ dB (xs.getD k noT).2.1.toNat ++ ⟨#[46]⟩ ++ dB (xs.getD k noT).2.2.toNat) := rfl
      have hts := ptextB_size xs HSM.out k
      obtain ⟨x, hX⟩ : ∃ x, x = (xs.getD k noT).1 := ⟨_, rfl⟩
      obtain ⟨y, hY⟩ : ∃ y, y = (xs.getD k noT).2.1 := ⟨_, rfl⟩
      obtain ⟨z, hZ⟩ : ∃ z, z = (xs.getD k noT).2.2 := ⟨_, rfl⟩
      obtain ⟨tk, htk⟩ : ∃ t, t = ptextB xs k := ⟨_, rfl⟩
      rw [← hX] at cx b1 hstep
      rw [← hY] at cy b2 hstep
      rw [← hZ] at cz b3 hstep
      rw [← htk] at hts hstep ⊢
      have s1 := dB_size3 x.toNat (by omega)
      have s2 := dB_size3 y.toNat (by omega)
      have s3 := dB_size3 z.toNat (by omega)
      have s4 : (⟨#[44]⟩ : ByteArray).size = 1 := rfl
      have HB := Lib.hid hB
      have hw1 : IntKind.i64.wrap ((k : Int) + 1) = ((k + 1 : Nat) : Int) := by rw [IntKind.wrap_i64]; omega
      by_cases h0 : k = 0
      · skip
        rw [if_pos h0] at hstep
        obtain ⟨q1, q2, q3, q4, q5⟩ := strAdd5 tk (dB x.toNat) (dB y.toNat) (dB z.toNat) (by omega) s1 s2 s3
        have HST := Lib.hid hstep
        have hk0 : ¬ (0 : Int) < (k : Int) := by omega
        clear hX hY hZ htk hB hstep s1 s2 s3 s4 hts h0
        go_wp2
        go_region_held3 (fun w' => w'.cell? ⟨wr.heap.size, 0, none⟩ = some (.int .i64 x) ∧ w'.cell? ⟨wr.heap.size, 1, none⟩ = some (.int .i64 y) ∧ w'.cell? ⟨wr.heap.size, 2, none⟩ = some (.int .i64 z)) (go_keep)
          (first | (go_at_call 106; (refine (l1Num_iB _ _ (by omega) (by omega)).mono ?_); rintro e w1 ⟨rfl, hb⟩; (have c0 : w1.cell? ⟨wr.heap.size, 0, none⟩ = some (.int .i64 x) := cellB hb (by first | assumption | go_simp)); (have c1 : w1.cell? ⟨wr.heap.size, 1, none⟩ = some (.int .i64 y) := cellB hb (by first | assumption | go_simp)); (have c2 : w1.cell? ⟨wr.heap.size, 2, none⟩ = some (.int .i64 z) := cellB hb (by first | assumption | go_simp)); (have hz1 : wr.heap.size < w1.heap.size := by (have := hb.size; (try simp at this); omega)); (have hBw : Below wr.heap.size wr w1 := by (refine Below.trans ?_ (hb.mono (by first | (simp; done) | omega | (simp; omega))); go_grown)); clear hb))
        all_goals
          go_wp2
          go_roundw
          case rel => exact ⟨k + 1, by omega, by go_num, by rw [HST.out], HB.out.trans ((by go_grown : Below wr.heap.size wr _).mono hz)⟩
          case measure => simp [intOf]; omega
      · skip
        rw [if_neg h0] at hstep
        have q0 := strAdd tk ⟨#[44]⟩ (by omega)
        obtain ⟨q1, q2, q3, q4, q5⟩ := strAdd5 (tk ++ ⟨#[44]⟩) (dB x.toNat) (dB y.toNat) (dB z.toNat) (by rw [ByteArray.size_append]; omega) s1 s2 s3
        have HST := Lib.hid hstep
        have hk0 : (0 : Int) < (k : Int) := by omega
        clear hX hY hZ htk hB hstep s1 s2 s3 s4 hts h0
        go_wp2
        go_region_held3 (fun w' => w'.cell? ⟨wr.heap.size, 0, none⟩ = some (.int .i64 x) ∧ w'.cell? ⟨wr.heap.size, 1, none⟩ = some (.int .i64 y) ∧ w'.cell? ⟨wr.heap.size, 2, none⟩ = some (.int .i64 z)) (go_keep)
          (first | (go_at_call 106; (refine (l1Num_iB _ _ (by omega) (by omega)).mono ?_); rintro e w1 ⟨rfl, hb⟩; (have c0 : w1.cell? ⟨wr.heap.size, 0, none⟩ = some (.int .i64 x) := cellB hb (by first | assumption | go_simp)); (have c1 : w1.cell? ⟨wr.heap.size, 1, none⟩ = some (.int .i64 y) := cellB hb (by first | assumption | go_simp)); (have c2 : w1.cell? ⟨wr.heap.size, 2, none⟩ = some (.int .i64 z) := cellB hb (by first | assumption | go_simp)); (have hz1 : wr.heap.size < w1.heap.size := by (have := hb.size; (try simp at this); omega)); (have hBw : Below wr.heap.size wr w1 := by (refine Below.trans ?_ (hb.mono (by first | (simp; done) | omega | (simp; omega))); go_grown)); clear hb))
        all_goals
          go_wp2
          go_roundw
          case rel => exact ⟨k + 1, by omega, by go_num, by rw [HST.out], HB.out.trans ((by go_grown : Below wr.heap.size wr _).mono hz)⟩
          case measure => simp [intOf]; omega
    · obtain rfl : k = xs.length := by omega
      go_wp2
      go_ret
      exact ⟨rfl, hB⟩

end Go.Proofs.YtbgcbokddldmkaaDoor
