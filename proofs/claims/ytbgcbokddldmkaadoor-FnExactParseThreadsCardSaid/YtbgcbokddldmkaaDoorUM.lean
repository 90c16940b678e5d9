/- Texts of threads: both sides, and the law. -/
import Derived.Test.YtbgcbokddldmkaaDoorUJ
import Derived.Test.YtbgcbokddldmkaaDoorSj
import Derived.Test.YtbgcbokddldmkaaDoorUGs
import Derived.Test.YtbgcbokddldmkaaDoorUGi
import Derived.Test.YtbgcbokddldmkaaDoorUN
import Derived.Deep.RegionHeld3
namespace Go.Proofs.YtbgcbokddldmkaaDoor
open Go.RowKit
set_option linter.unusedVariables false

theorem Tryd.joinExtra : Go.Proofs.Builder.Extra Tryd.prog Tryd.joinL_ren where
  sizeBuilder := by kernel_rfl
  liesBuilder := by kernel_rfl
  t5 := Tryd.underlying5
  a5 := Tryd.isAgg5
  z5 := Tryd.sizeOf5
  v5 := Tryd.zeroValue5
  infoByte := by kernel_rfl
  cellsByte := by kernel_rfl
  sizeByte := by kernel_rfl
  neB5 := by decide

theorem join_any (xs : List (Int × Int)) (hs : SmallP xs) (g : Nat) (w : World) (hn : xs.length ≤ 30) (h : ValAt 9 w g ((textsB xs xs.length).map Value.string)) :
    Calls Tryd.prog 108 #[.slice (some ⟨g, 0, none⟩) xs.length xs.length, .string ⟨#[44]⟩] w fun e w' => e = .returned (.string (textB xs xs.length)) ∧ Below w.heap.size w w' := by
  have hl := textsB_length xs xs.length
  have hjs := join_size xs hs xs.length
  have hc := Any.strings_Join Tryd.joinL Tryd.joinExtra g 0 xs.length (textsB xs xs.length) ⟨#[44]⟩ w (fun j x hx => by
    rw [Nat.zero_add]
    exact h.cell j _ (by rw [List.getElem?_map, hx]; rfl)) h.lt (by omega) (by omega) (by show (Lib.join _ [44]).length ≤ _; omega)
  rw [hl] at hc
  refine hc.mono ?_
  rintro e w' ⟨rfl, hb⟩
  exact ⟨by rw [textB_join xs xs.length], hb⟩

theorem info_strS : (Tryd.prog.info? 9).map (fun i => (i.zero, i.size, i.bytes)) = some (some (.string ⟨#[]⟩), 1, 16) := by kernel_rfl

theorem goodT_at {xs : List (Int × Int)} (h : goodT xs) (k : Nat) (hk : k < xs.length) : 0 ≤ (xs.getD k (0, 0)).1 ∧ (xs.getD k (0, 0)).1 < 101 ∧ 0 ≤ (xs.getD k (0, 0)).2 ∧ (xs.getD k (0, 0)).2 < 101 := by
  have h1 := h.at k hk
  unfold isT at h1
  omega

theorem goodT_small {xs : List (Int × Int)} (h : goodT xs) : SmallP xs := fun k => by
  by_cases hk : k < xs.length
  · have := goodT_at h k hk
    omega
  · rw [List.getD_eq_getElem?_getD, List.getElem?_eq_none (by omega)]
    simp

set_option maxHeartbeats 4000000 in
set_option maxRecDepth 100000 in
theorem sgText_any (u : Value) (xs : List (Int × Int)) (hs : SmallP xs) (B T : Nat) (w : World) (h : PairsIn 110 w B T u xs) (hn : xs.length ≤ 30) (hg : ∀ k, k < xs.length → 0 ≤ (xs.getD k (0, 0)).1 ∧ (xs.getD k (0, 0)).1 < 101 ∧ 0 ≤ (xs.getD k (0, 0)).2 ∧ (xs.getD k (0, 0)).2 < 101) :
    Calls Tryd.prog 91 #[u] w fun e w' => e = .returned (.string (textB xs xs.length)) ∧ Below w.heap.size w w' := by
  obtain ⟨a1, c1, g1, rfl, ha1, hmm, hx1, hy1⟩ := h.pairs.view
  have X := Lib.hid hx1
  have Y := Lib.hid hy1
  have HA := Lib.hid ha1
  have HG := Lib.hid hg
  clear h ha1 hx1 hy1 hmm hg
  go_enter Tryd.func91, Tryd.ntmps91
  go_wp2
  go_loopw [3, 8] (fun s i wr => ∃ k : Nat, k ≤ xs.length ∧ i = .int .i64 k ∧ s = .string (textB xs k) ∧ Below w.heap.size w wr) (fun _ i _ => xs.length - (intOf i).toNat)
  case atStart => exact ⟨0, by omega, rfl, rfl, Below.refl _ _⟩
  case round =>
    obtain ⟨k, hk, rfl, rfl, hB⟩ := hrel
    by_cases hlt : k < xs.length
    · obtain rfl := HA.out (by omega)
      have hz := hB.size
      have cx := cellB hB (X.out k hlt)
      have cy := cellB hB (Y.out k hlt)
      obtain ⟨b1, b2, b3, b4⟩ := HG.out k hlt
      have hstep : textB xs (k + 1) = (if k = 0 then textB xs k else textB xs k ++ ⟨#[44]⟩) ++ (dB (xs.getD k (0, 0)).1.toNat ++ ⟨#[58]⟩ ++ dB (xs.getD k (0, 0)).2.toNat) := rfl
      have hts := textB_size xs hs k
      obtain ⟨x, hx⟩ : ∃ x, x = (xs.getD k (0, 0)).1 := ⟨_, rfl⟩
      obtain ⟨y, hy⟩ : ∃ y, y = (xs.getD k (0, 0)).2 := ⟨_, rfl⟩
      obtain ⟨tk, htk⟩ : ∃ t, t = textB xs k := ⟨_, rfl⟩
      rw [← hx] at cx b1 b2 hstep
      rw [← hy] at cy b3 b4 hstep
      rw [← htk] at hts hstep ⊢
      have HB := Lib.hid hB
      have hw1 : IntKind.i64.wrap ((k : Int) + 1) = ((k + 1 : Nat) : Int) := by rw [IntKind.wrap_i64]; omega
      have s1 := dB_size3 x.toNat (by omega)
      have s2 := dB_size3 y.toNat (by omega)
      have s3 : (⟨#[58]⟩ : ByteArray).size = 1 := rfl
      have s4 : (⟨#[44]⟩ : ByteArray).size = 1 := rfl
      have q1 := strAdd (dB x.toNat) ⟨#[58]⟩ (by omega)
      have q2 := strAdd (dB x.toNat ++ ⟨#[58]⟩) (dB y.toNat) (by rw [ByteArray.size_append]; omega)
      by_cases h0 : k = 0
      · rw [if_pos h0] at hstep
        have q3 := strAdd tk (dB x.toNat ++ ⟨#[58]⟩ ++ dB y.toNat) (by rw [ByteArray.size_append, ByteArray.size_append]; omega)
        have HST := Lib.hid hstep
        have hk0 : ¬ (0 : Int) < (k : Int) := by omega
        clear hx hy htk hB hstep s1 s2 s3 s4 hts h0
        go_wp2
        go_region_held3 (fun w' => w'.cell? ⟨wr.heap.size, 0, none⟩ = some (.int .i64 x) ∧ w'.cell? ⟨wr.heap.size, 1, none⟩ = some (.int .i64 y)) (go_keep)
          (first | (go_at_call 106; refine (l1Num_iB _ _ (by omega) (by omega)).mono ?_; rintro e w1 ⟨rfl, hb⟩; (have c0 : w1.cell? ⟨wr.heap.size, 0, none⟩ = some (.int .i64 x) := cellB hb (by first | assumption | go_simp)); (have c1 : w1.cell? ⟨wr.heap.size, 1, none⟩ = some (.int .i64 y) := cellB hb (by first | assumption | go_simp)); (have hz1 : wr.heap.size < w1.heap.size := by (have := hb.size; (try simp at this); omega)); (have hBw : Below wr.heap.size wr w1 := by (refine Below.trans ?_ (hb.mono (by first | (simp; done) | omega | (simp; omega))); go_grown)); clear hb))
        all_goals
          go_wp2
          go_roundw
          case rel => exact ⟨k + 1, by omega, by go_num, by rw [HST.out], HB.out.trans ((by go_grown : Below wr.heap.size wr _).mono hz)⟩
          case measure => simp [intOf]; omega
      · rw [if_neg h0] at hstep
        have q4 := strAdd tk ⟨#[44]⟩ (by omega)
        have q3 := strAdd (tk ++ ⟨#[44]⟩) (dB x.toNat ++ ⟨#[58]⟩ ++ dB y.toNat) (by rw [ByteArray.size_append, ByteArray.size_append, ByteArray.size_append]; omega)
        have HST := Lib.hid hstep
        have hk0 : (0 : Int) < (k : Int) := by omega
        clear hx hy htk hB hstep s1 s2 s3 s4 hts h0
        go_wp2
        go_region_held3 (fun w' => w'.cell? ⟨wr.heap.size, 0, none⟩ = some (.int .i64 x) ∧ w'.cell? ⟨wr.heap.size, 1, none⟩ = some (.int .i64 y)) (go_keep)
          (first | (go_at_call 106; refine (l1Num_iB _ _ (by omega) (by omega)).mono ?_; rintro e w1 ⟨rfl, hb⟩; (have c0 : w1.cell? ⟨wr.heap.size, 0, none⟩ = some (.int .i64 x) := cellB hb (by first | assumption | go_simp)); (have c1 : w1.cell? ⟨wr.heap.size, 1, none⟩ = some (.int .i64 y) := cellB hb (by first | assumption | go_simp)); (have hz1 : wr.heap.size < w1.heap.size := by (have := hb.size; (try simp at this); omega)); (have hBw : Below wr.heap.size wr w1 := by (refine Below.trans ?_ (hb.mono (by first | (simp; done) | omega | (simp; omega))); go_grown)); clear hb))
        all_goals
          go_wp2
          go_roundw
          case rel => exact ⟨k + 1, by omega, by go_num, by rw [HST.out], HB.out.trans ((by go_grown : Below wr.heap.size wr _).mono hz)⟩
          case measure => simp [intOf]; omega
    · obtain rfl : k = xs.length := by omega
      go_wp2
      go_ret
      exact ⟨rfl, hB⟩

end Go.Proofs.YtbgcbokddldmkaaDoor
