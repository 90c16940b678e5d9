/- Closed words, counted: the program. -/
import Derived.Test.YtbgcbokddldmkaaDoorCc6
import Derived.OpenShut
import Derived.MakeChecks
namespace Go.Proofs.YtbgcbokddldmkaaDoor
open Go.RowKit Go.Maps Go.ChangeShapes Go.WideShapes
set_option linter.unusedVariables false

/-- A map of no entry, and one put into it. -/
theorem MapC.first {w : World} {b : Nat} (h : MapC w b 0 []) {p : Tri} {kl : Lit} (hk : IsKeyP p kl) (x : Int) (hx : (Lit.int .i64 x).wf = true) :
    ∃ w', (Instr.mapUpdate 120 (.map (some b)) (aggP p) (.int .i64 x)).run Tryd.prog w = .ok () w' ∧ MapC w' b 1 [(p, x)] ∧ w.grownBy w' (some b) := by
  obtain ⟨D, hown, hR⟩ := h
  have hD : IsMap D := hown.isMap
  obtain ⟨w', h1, h2, h3⟩ := hown.update keyPl Tryd.underlying120 (by unfold maxLen; omega) hk (elemN_mk hx)
  have h4 := hR.put hD hk x
  have h5 : Go.Proofs.YtbgcbokddldmkaaDoor.look [] p + x = x := by show (0 : Int) + x = x; omega
  rw [h5] at h4
  have h6 : bump [] p x = [(p, x)] := by show ([] : Cnts) ++ [(p, 0 + x)] = _; rw [Int.zero_add]; rfl
  rw [h6] at h4
  exact ⟨w', h1, ⟨_, h2, h4⟩, h3⟩

theorem wt_three_pow {g : Int} {n : Nat} {xs : Cnts} (h : ∀ T, wt xs T = moreN g T n homeP) (hn : n ≤ 9) : wt xs (fun _ => 1) ≤ 20000 := by
  rw [h, moreN_one]
  have h1 : 3 ^ n ≤ 3 ^ 9 := Nat.pow_le_pow_right (by omega) hn
  have h2 : (3 : Nat) ^ 9 = 19683 := by decide
  omega

set_option maxHeartbeats 4000000 in
set_option maxRecDepth 100000 in
theorem iCountClosed_yes (g : Int) (n : Nat) (w : World) (hg : isG g) (hn : n ≤ 10) (hW : StepsW w) : Calls Tryd.prog 51 #[.int .i64 g, .int .i64 (n : Int)] w fun e w' => e = .returned (.tuple #[.int .i64 (cntP g n homeP), .bool true]) ∧ Below w.heap.size w w' := by
  have HG := Lib.hid hg
  have HW := Lib.hid hW
  obtain ⟨kl, hkl⟩ := isKeyP_ok hg (okP_home hg) (by omega)
  have HK := Lib.hid hkl
  obtain ⟨w1, hr1, hM1, hg1⟩ := (MapC.made w).first hkl 1 (by decide)
  have hb1 : Below w.heap.size w w1 := (((Below.refl w.heap.size w).alloc (Nat.le_refl _) _)).grown hg1 (by simp) (fun k hk => by cases hk; omega)
  have HM1 := Lib.hid hM1
  have HB1 := Lib.hid hb1
  have hmk := @run_makeMap Tryd.prog
  simp only [aggP, homeP] at hr1
  clear hg hW hkl hM1 hb1 hg1
  go_enter Tryd.func51, Tryd.ntmps51
  go_wp2_with (first | (go_at_call 96; (with_reducible refine (isGrid_yes _ _ HG.out).mono ?_); rintro e w1 ⟨rfl, rfl⟩))
  go_loopw [6, 22] (fun m i wr => ∃ (j b : Nat) (xs : Cnts), m = .map (some b) ∧ i = .int .i64 (j : Int) ∧ j ≤ n ∧ MapC wr b (3 ^ j) xs ∧ Hid (AllPos g j xs) ∧ Hid (∀ T, wt xs T = moreN g T j homeP) ∧ Below w.heap.size w wr ∧ w.heap.size ≤ wr.heap.size) (fun _ i _ => n - (intOf i).toNat)
  case atStart =>
    have hA0 : AllPos g 0 [(homeP, 1)] := ⟨by simp [Once], fun q hq => by
      obtain rfl : q = (homeP, 1) := by simpa using hq
      exact ⟨okP_home HG.out, by show (1 : Int) ≤ 1; omega⟩⟩
    have hE0 : ∀ T, wt [(homeP, 1)] T = moreN g T 0 homeP := fun T => by rw [wt_cons, wt_nil]; show 1 * T homeP + 0 = T homeP; omega
    exact ⟨0, w.heap.size, [(homeP, 1)], rfl, rfl, by omega, HM1.out, Lib.hid hA0, Lib.hid hE0, HB1.out, HB1.out.size⟩
  case round =>
    obtain ⟨j, b, xs, rfl, rfl, hj, hM, HX, HE, hB, hz⟩ := hrel
    have HM := Lib.hid hM
    have HB := Lib.hid hB
    have HWr := Lib.hid (HW.out.later hB)
    clear hM hB hr1
    by_cases hjn : j < n
    · have hlt : (j : Int) < n := by omega
      have h3 : 3 ^ j ≤ 100000 := Nat.le_trans (Nat.pow_le_pow_right (by omega) (show j ≤ 9 by omega)) (by decide)
      have hT := wt_three_pow HE.out (by omega)
      have HL := Lib.hid (countLonger_any g b (3 ^ j) j xs wr HG.out HM.out HX.out (by omega) h3 HWr.out hT)
      clear h3 hT
      go_wp2_with (first | (go_at_call 97; (refine (HL.out).mono ?_); rintro e w2 ⟨b2, ys, rfl, hM2, hX2, hE2, hb2⟩; (have HM2 := Lib.hid hM2); (have HX2 := Lib.hid hX2); (have HE2 := Lib.hid hE2); (have HB2 := Lib.hid hb2); clear hM2 hX2 hE2 hb2))
      have hw : IntKind.i64.wrap ((j : Int) + 1) = ((j + 1 : Nat) : Int) := by rw [wrapX _ (by omega)]; omega
      go_roundw
      case rel => exact ⟨j + 1, b2, ys, rfl, rfl, by omega, by rw [Nat.pow_succ, Nat.mul_comm]; exact HM2.out, HX2, Lib.hid fun T => by rw [HE2.out, HE.out, moreN_out], HB.out.trans (HB2.out.mono hz), Nat.le_trans hz HB2.out.size⟩
      case measure => simp [intOf]; omega
    · obtain rfl : j = n := by omega
      have hlt : ¬ (j : Int) < j := by omega
      have hlk := HM.out.look_run HK.out
      have hv : Go.Proofs.YtbgcbokddldmkaaDoor.look xs homeP = cntP g j homeP := by rw [← wt_home HX.out.1, HE.out, moreN_home]
      rw [hv] at hlk
      simp only [aggP, homeP] at hlk ⊢
      clear hv
      go_wp2
      go_ret2
      exact ⟨rfl, HB.out⟩
end Go.Proofs.YtbgcbokddldmkaaDoor
