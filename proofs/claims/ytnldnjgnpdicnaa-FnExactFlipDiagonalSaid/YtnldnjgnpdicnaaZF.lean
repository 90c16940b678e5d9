/- ZF: Fd6, Fd7, Fd8, Fd9, Fd10, one after the other. -/
import Derived.Test.YtnldnjgnpdicnaaFd5
import Derived.Test.YtnldnjgnpdicnaaFd3
import Derived.Test.YtnldnjgnpdicnaaZX
namespace Go.Proofs.Ytnldnjgnpdicnaa
open Go.RowKit
set_option linter.unusedVariables false

set_option maxHeartbeats 1000000 in
theorem flipFn (n : Nat) (a0 : Option Addr) (cap : Nat) (xs : List (Int × Int)) (B T : Nat) (w : World) (h : PairsIn 52 w B T (.slice a0 xs.length cap) xs) (hT : T ≤ w.heap.size) (hg : goodC n xs) (ht : triB n xs = true) (k : Nat) (hk : k < xs.length) {x y f g u v : Int} (hxy : xs.getD k (0, 0) = (x, y))
    (hmap : ((regL n xs).filter (bothR (x, y))).map (crnR (x, y)) = [u, v]) (hthird : ∀ S ∈ regL n xs, bothR (x, y) S = true → ∃ p ∈ S, p ≠ x ∧ p ≠ y) (hmin : min u v = f) (hmax : max u v = g) (gk : Nat) (hc : w.cell? ⟨gk, 0, none⟩ = some (.int .i64 (k : Int))) :
    Calls Try.prog 57 #[.agg #[.int .i64 n, .slice a0 xs.length cap], .pointer (some ⟨gk, 0, none⟩)] w fun e w' => ∃ v, e = .returned v ∧ PairsIn 52 w' w.heap.size w'.heap.size v (sortL (xs.set k (f, g))) ∧ Below w.heap.size w w' := by
  have z0 : (w.alloc (.cells #[.int .i64 n, .slice a0 xs.length cap] 78)).cell? ⟨gk, 0, none⟩ = some (.int .i64 (k : Int)) := cellB (by go_grown) hc
  have HF := Lib.hid (fun W hW1 hW2 => flipped_any n a0 cap xs B T W hW1 hW2 hg ht k hk hxy hmap hthird hmin hmax)
  clear hg ht hxy hmap hthird hmin hmax hc
  go_enter Try.func57, Try.ntmps57
  go_wp2_with (first | (go_at_call 58; (refine (HF.out _ (h.keep (belowSame (by go_grown) hT)) (Nat.le_trans hT (by first | (simp; done) | (simp; omega)))).mono ?_); rintro e w1 ⟨v1, rfl, hI, hb1⟩))
  go_ret
  exact ⟨_, rfl, PairsIn.wider hI (by simp) (Nat.le_refl _), Below.trans (by go_grown) (hb1.mono (by first | omega | (simp; done) | (simp; omega)))⟩
set_option maxHeartbeats 1000000 in
theorem told_flip (n : Nat) (a0 : Option Addr) (cap : Nat) (xs : List (Int × Int)) (B T : Nat) (w : World) (h : PairsIn 52 w B T (.slice a0 xs.length cap) xs) (hT : T ≤ w.heap.size) (hg : goodC n xs) (ht : triB n xs = true) (k : Nat) (hk : k < xs.length) {x y f g u v : Int} (hxy : xs.getD k (0, 0) = (x, y))
    (hmap : ((regL n xs).filter (bothR (x, y))).map (crnR (x, y)) = [u, v]) (hthird : ∀ S ∈ regL n xs, bothR (x, y) S = true → ∃ p ∈ S, p ≠ x ∧ p ≠ y) (hmin : min u v = f) (hmax : max u v = g) (gk : Nat) (hc : w.cell? ⟨gk, 0, none⟩ = some (.int .i64 (k : Int))) :
    Calls Try.prog 55 #[.int .i64 n, .slice a0 xs.length cap, .func (.func 56) #[] #[], .func (.func 57) #[] #[.pointer (some ⟨gk, 0, none⟩)]] w (Gives (PairsIn 52) w (sortL (xs.set k (f, g))) true) := by
  have HF := Lib.hid (fun W hW1 hW2 hW3 => flipFn n a0 cap xs B T W hW1 hW2 hg ht k hk hxy hmap hthird hmin hmax gk hW3)
  have HT := Lib.hid ht
  clear ht hxy hmap hthird hmin hmax
  go_enter Try.func55, Try.ntmps55
  go_wp2_with (first | (go_at_call 56; (refine (isTriangled_yes n _ _ xs B T _ (h.keep (belowSame (by go_grown) hT)) (Nat.le_trans hT (by first | (simp; done) | (simp; omega))) hg).mono ?_); rw [HT.out]; rintro e w1 ⟨rfl, hb1⟩; (have c0 : w1.cell? ⟨w.heap.size, 0, none⟩ = some (.int .i64 n) := cellB hb1 (by go_simp)); (have c1 : w1.cell? ⟨w.heap.size, 1, none⟩ = some (.slice a0 xs.length cap) := cellB hb1 (by go_simp)); (have hB1 : Below w.heap.size w w1 := Below.trans (by go_grown) (hb1.mono (by first | omega | (simp; done) | (simp; omega)))); have hz1 := hB1.size) | (go_at_call 57; (refine (HF.out _ (h.keep (belowSame hB1 hT)) (by omega) (cellB hB1 hc)).mono ?_); rintro e w2 ⟨v2, rfl, hI, hb2⟩))
  go_ret2
  exact ⟨_, rfl, PairsIn.wider hI hz1 (Nat.le_refl _), hB1.trans (hb2.mono hz1)⟩

set_option maxHeartbeats 400000 in
theorem told_flip_not (p : Int) (a0 : Option Addr) (cap : Nat) (xs : List (Int × Int)) (B T : Nat) (w : World) (h : PairsIn 52 w B T (.slice a0 xs.length cap) xs) (hT : T ≤ w.heap.size) (f : Value) (hg : goodC p xs) (ht : triB p xs = false) : Calls Try.prog 55 #[.int .i64 p, .slice a0 xs.length cap, .func (.func 56) #[] #[], f] w (Gives (PairsIn 52) w [] false) := by
  have HT := Lib.hid ht
  clear ht
  go_enter Try.func55, Try.ntmps55
  go_wp2_with (first | (go_at_call 56; (refine (isTriangled_yes p _ _ xs B T _ (h.keep (belowSame (by go_grown) hT)) (Nat.le_trans hT (by first | (simp; done) | (simp; omega))) hg).mono ?_); rw [HT.out]; rintro e w1 ⟨rfl, hb1⟩))
  go_ret2
  exact ⟨_, rfl, PairsIn.nil _ _ _ _, Below.trans (by go_grown) (hb1.mono (by first | omega | (simp; done) | (simp; omega)))⟩

set_option maxHeartbeats 400000 in
theorem told_flip_bad (p : Int) (a0 : Option Addr) (cap : Nat) (xs : List (Int × Int)) (B T : Nat) (w : World) (h : PairsIn 52 w B T (.slice a0 xs.length cap) xs) (hT : T ≤ w.heap.size) (f : Value) (hg : ¬ goodC p xs) : Calls Try.prog 55 #[.int .i64 p, .slice a0 xs.length cap, .func (.func 56) #[] #[], f] w (Gives (PairsIn 52) w [] false) := by
  go_enter Try.func55, Try.ntmps55
  go_wp2_with (first | (go_at_call 56; (with_reducible refine (isTriangled_no p _ _ xs B T _ (h.keep (belowSame (by go_grown) hT)) (Nat.le_trans hT (by first | (simp; done) | (simp; omega))) hg).mono ?_); rintro e w1 ⟨rfl, hb1⟩))
  go_ret2
  exact ⟨_, rfl, PairsIn.nil _ _ _ _, Below.trans (by go_grown) (hb1.mono (by first | omega | (simp; done) | (simp; omega)))⟩

end Go.Proofs.Ytnldnjgnpdicnaa

namespace Go.Proofs.Ytnldnjgnpdicnaa
open Go.RowKit
set_option linter.unusedVariables false

set_option maxHeartbeats 1000000 in
theorem iFlip_yes (n : Nat) (a0 : Option Addr) (cap : Nat) (xs : List (Int × Int)) (B T : Nat) (w : World) (h : PairsIn 52 w B T (.slice a0 xs.length cap) xs) (hT : T ≤ w.heap.size) (hg : goodC n xs) (ht : triB n xs = true) (k : Nat) (hk : k < xs.length) {x y f g u v : Int} (hxy : xs.getD k (0, 0) = (x, y))
    (hmap : ((regL n xs).filter (bothR (x, y))).map (crnR (x, y)) = [u, v]) (hthird : ∀ S ∈ regL n xs, bothR (x, y) S = true → ∃ p ∈ S, p ≠ x ∧ p ≠ y) (hmin : min u v = f) (hmax : max u v = g) :
    Calls Try.prog 9 #[.int .i64 n, .slice a0 xs.length cap, .int .i64 (k : Int)] w (Gives (PairsIn 52) w (sortL (xs.set k (f, g))) true) := by
  have HF := Lib.hid (fun W hW1 hW2 gk hW3 => told_flip n a0 cap xs B T W hW1 hW2 hg ht k hk hxy hmap hthird hmin hmax gk hW3)
  have h1 : ¬ (k : Int) < 0 := by omega
  have h2 : ¬ (xs.length : Int) ≤ (k : Int) := by omega
  clear hg ht hxy hmap hthird hmin hmax
  go_enter Try.func9, Try.ntmps9
  go_wp2_with (first | (go_at_call 55; (refine (HF.out _ (h.keep (belowSame (by go_grown) hT)) (Nat.le_trans hT (by first | (simp; done) | (simp; omega))) w.heap.size (by go_simp)).mono ?_); rintro e w1 ⟨v1, rfl, hI, hb1⟩))
  go_ret2
  exact ⟨_, rfl, PairsIn.wider hI (by first | (simp; done) | (simp; omega)) (Nat.le_refl _), Below.trans (by go_grown) (hb1.mono (by first | omega | (simp; done) | (simp; omega)))⟩

set_option maxHeartbeats 400000 in
theorem iFlip_low (p : Int) (a0 : Option Addr) (cap : Nat) (xs : List (Int × Int)) (k : Int) (B T : Nat) (w : World) (h : PairsIn 52 w B T (.slice a0 xs.length cap) xs) (hT : T ≤ w.heap.size) (h1 : k < 0) : Calls Try.prog 9 #[.int .i64 p, .slice a0 xs.length cap, .int .i64 k] w (Gives (PairsIn 52) w [] false) := by
  go_enter Try.func9, Try.ntmps9
  go_wp2
  go_ret2
  exact ⟨_, rfl, PairsIn.nil _ _ _ _, by go_grown⟩

set_option maxHeartbeats 400000 in
theorem iFlip_high (p : Int) (a0 : Option Addr) (cap : Nat) (xs : List (Int × Int)) (k : Int) (B T : Nat) (w : World) (h : PairsIn 52 w B T (.slice a0 xs.length cap) xs) (hT : T ≤ w.heap.size) (h1 : ¬ k < 0) (h2 : (xs.length : Int) ≤ k) : Calls Try.prog 9 #[.int .i64 p, .slice a0 xs.length cap, .int .i64 k] w (Gives (PairsIn 52) w [] false) := by
  go_enter Try.func9, Try.ntmps9
  go_wp2
  go_ret2
  exact ⟨_, rfl, PairsIn.nil _ _ _ _, by go_grown⟩

set_option maxHeartbeats 400000 in
theorem iFlip_not (p : Int) (a0 : Option Addr) (cap : Nat) (xs : List (Int × Int)) (k : Int) (B T : Nat) (w : World) (h : PairsIn 52 w B T (.slice a0 xs.length cap) xs) (hT : T ≤ w.heap.size) (h1 : ¬ k < 0) (h2 : ¬ (xs.length : Int) ≤ k) (hg : goodC p xs) (ht : triB p xs = false) : Calls Try.prog 9 #[.int .i64 p, .slice a0 xs.length cap, .int .i64 k] w (Gives (PairsIn 52) w [] false) := by
  have HG := Lib.hid hg
  have HT := Lib.hid ht
  clear hg ht
  go_enter Try.func9, Try.ntmps9
  go_wp2_with (first | (go_at_call 55; (refine (told_flip_not p _ _ xs B T _ (h.keep (belowSame (by go_grown) hT)) (Nat.le_trans hT (by first | (simp; done) | (simp; omega))) _ HG.out HT.out).mono ?_); rintro e w1 ⟨v1, rfl, hI, hb1⟩))
  go_ret2
  exact ⟨_, rfl, PairsIn.wider hI (by first | (simp; done) | (simp; omega)) (Nat.le_refl _), Below.trans (by go_grown) (hb1.mono (by first | omega | (simp; done) | (simp; omega)))⟩

set_option maxHeartbeats 400000 in
theorem iFlip_bad (p : Int) (a0 : Option Addr) (cap : Nat) (xs : List (Int × Int)) (k : Int) (B T : Nat) (w : World) (h : PairsIn 52 w B T (.slice a0 xs.length cap) xs) (hT : T ≤ w.heap.size) (h1 : ¬ k < 0) (h2 : ¬ (xs.length : Int) ≤ k) (hg : ¬ goodC p xs) : Calls Try.prog 9 #[.int .i64 p, .slice a0 xs.length cap, .int .i64 k] w (Gives (PairsIn 52) w [] false) := by
  have HG := Lib.hid hg
  clear hg
  go_enter Try.func9, Try.ntmps9
  go_wp2_with (first | (go_at_call 55; (refine (told_flip_bad p _ _ xs B T _ (h.keep (belowSame (by go_grown) hT)) (Nat.le_trans hT (by first | (simp; done) | (simp; omega))) _ HG.out).mono ?_); rintro e w1 ⟨v1, rfl, hI, hb1⟩))
  go_ret2
  exact ⟨_, rfl, PairsIn.wider hI (by first | (simp; done) | (simp; omega)) (Nat.le_refl _), Below.trans (by go_grown) (hb1.mono (by first | omega | (simp; done) | (simp; omega)))⟩

end Go.Proofs.Ytnldnjgnpdicnaa

namespace Go.Proofs.Ytnldnjgnpdicnaa
open Go.RowKit
set_option linter.unusedVariables false
set_option maxHeartbeats 400000 in
theorem sFlip_bad (p : Int) (a0 : Option Addr) (cap : Nat) (xs : List (Int × Int)) (k : Int) (B T : Nat) (w : World) (h : PairsIn 52 w B T (.slice a0 xs.length cap) xs) (hT : T ≤ w.heap.size) (hg : ¬ goodC p xs) : Calls Try.prog 7 #[.int .i64 p, .slice a0 xs.length cap, .int .i64 k] w (Gives (PairsIn 52) w [] false) := by
  have HG := Lib.hid hg
  clear hg
  go_enter Try.func7, Try.ntmps7
  go_wp2_with (first | (go_at_call 48; (with_reducible refine (cdGood_no p _ xs B T _ h HG.out).mono ?_); rintro e w1 ⟨rfl, hb1⟩; have h1 := h.keep (belowSame hb1 hT); have hz1 := hb1.size))
  go_ret2
  exact ⟨_, rfl, PairsIn.nil _ _ _ _, hb1⟩

set_option maxHeartbeats 400000 in
theorem sFlip_not (p : Int) (a0 : Option Addr) (cap : Nat) (xs : List (Int × Int)) (k : Int) (B T : Nat) (w : World) (h : PairsIn 52 w B T (.slice a0 xs.length cap) xs) (hT : T ≤ w.heap.size) (hg : goodC p xs) (ht : triB p xs = false) : Calls Try.prog 7 #[.int .i64 p, .slice a0 xs.length cap, .int .i64 k] w (Gives (PairsIn 52) w [] false) := by
  have HG := Lib.hid hg
  have HT := Lib.hid ht
  clear hg ht
  go_enter Try.func7, Try.ntmps7
  go_wp2_with (first | (go_at_call 48; (with_reducible refine (cdGood_yes p _ xs B T _ h HG.out).mono ?_); rintro e w1 ⟨rfl, hb1⟩; have h1 := h.keep (belowSame hb1 hT); have hz1 := hb1.size) | (go_at_call 49; (refine (reTriangled_yes p _ _ xs B T _ h1 (by omega) HG.out).mono ?_); rw [HT.out]; rintro e w2 ⟨rfl, hb2⟩; have hB2 := hb1.trans (hb2.mono hz1)))
  go_ret2
  exact ⟨_, rfl, PairsIn.nil _ _ _ _, hB2⟩

set_option maxHeartbeats 400000 in
theorem sFlip_out (p : Int) (a0 : Option Addr) (cap : Nat) (xs : List (Int × Int)) (k : Int) (B T : Nat) (w : World) (h : PairsIn 52 w B T (.slice a0 xs.length cap) xs) (hT : T ≤ w.heap.size) (hg : goodC p xs) (ht : triB p xs = true) (hk : ¬ (0 ≤ k ∧ k ≤ (xs.length : Int) - 1)) : Calls Try.prog 7 #[.int .i64 p, .slice a0 xs.length cap, .int .i64 k] w (Gives (PairsIn 52) w [] false) := by
  have HG := Lib.hid hg
  have HT := Lib.hid ht
  have HK := Lib.hid hk
  have hl := hg.2.1
  clear hg ht hk
  go_enter Try.func7, Try.ntmps7
  go_wp2_with (first | (go_at_call 48; (with_reducible refine (cdGood_yes p _ xs B T _ h HG.out).mono ?_); rintro e w1 ⟨rfl, hb1⟩; have h1 := h.keep (belowSame hb1 hT); have hz1 := hb1.size) | (go_at_call 49; (refine (reTriangled_yes p _ _ xs B T _ h1 (by omega) HG.out).mono ?_); rw [HT.out]; rintro e w2 ⟨rfl, hb2⟩; have hB2 := hb1.trans (hb2.mono hz1)) | (go_at_call 50; (with_reducible refine (l1In_no _ 0 _ _ HK.out).mono ?_); rintro e w3 ⟨rfl, rfl⟩))
  go_ret2
  exact ⟨_, rfl, PairsIn.nil _ _ _ _, hB2⟩

end Go.Proofs.Ytnldnjgnpdicnaa

namespace Go.Proofs.Ytnldnjgnpdicnaa
open Go.RowKit
set_option linter.unusedVariables false
set_option maxHeartbeats 4000000 in
set_option maxRecDepth 100000 in
theorem sFlip_yes (n : Nat) (u0 : Value) (xs rest : List (Int × Int)) (k : Nat) (B T : Nat) (w : World) (h : PairsIn 52 w B T u0 xs) (hT : T ≤ w.heap.size) (hg : goodC n xs) (ht : triB n xs = true) (hk : k < xs.length) {x y f g a b d e : Int} (hxy : xs.getD k (0, 0) = (x, y))
    (hr : rest = xs.take k ++ xs.drop (k + 1)) (hgr : goodC n rest) (hplr : allP rest rest.length = []) (hord : a < b ∧ b < d ∧ d < e) (hin : [a, b, d, e] ∈ regL n rest) (hone : ∀ S ∈ regL n rest, bothR (x, y) S = true → S = [a, b, d, e]) (hboth : bothR (x, y) [a, b, d, e] = true)
    (hcase : ((x = a ∧ y = d) ∧ f = b ∧ g = e) ∨ ((x = b ∧ y = e) ∧ f = a ∧ g = d)) :
    Calls Try.prog 7 #[.int .i64 n, u0, .int .i64 (k : Int)] w (Gives (PairsIn 52) w (putC rest (f, g)) true) := by
  have hlr := hgr.2.1
  have hsm := (regL_small hgr hplr).2
  have HRW := Lib.hid (regL_rows hgr hplr)
  have HHR := Lib.hid (fun u B T W hW1 hW2 => reList_gives n u rest B T W hW1 hW2 hgr hplr)
  obtain ⟨L, hL⟩ : ∃ L, regL n rest = L := ⟨_, rfl⟩
  rw [hL] at hsm HRW HHR hin hone
  have HIN := Lib.hid hin
  have HONE := Lib.hid hone
  have HR0 := Lib.hid hr
  have HCASE := Lib.hid hcase
  have HBOTH := Lib.hid hboth
  clear hL hin hone hr hcase hboth hgr hplr
  have hl := hg.2.1
  have HH := Lib.hid h
  have HG := Lib.hid hg
  have HT := Lib.hid ht
  have hS := h.1.src
  obtain ⟨hlen, ⟨rfl, hn0⟩ | ⟨gx, cap, cur, rfl, hB0, hg0, hncap, hcm, _, _⟩⟩ := (show _ ∧ _ from h.1)
  · omega
  unfold maxLen at hcm
  have HS := Lib.hid hS
  have ex := h.1.cell0 k hk
  have ey := h.1.cell1 k hk
  rw [hxy] at ex ey
  simp only at ex ey
  have EX := Lib.hid ex
  have EY := Lib.hid ey
  clear h hg hS hlen hg0 ht hxy ex ey
  have hk0 : 0 ≤ (k : Int) := by omega
  have hk1 : (k : Int) ≤ (cap : Int) := by omega
  have hk2 : (k : Int) + 1 ≤ (xs.length : Int) := by omega
  have hk3 : (xs.length : Int) ≤ (cap : Int) := by omega
  have hk4 : (k : Int) ≤ (xs.length : Int) - 1 := by omega
  obtain ⟨k1, hk5⟩ : ∃ k1, k1 = k + 1 := ⟨_, rfl⟩
  have hwk : IntKind.i64.wrap ((k : Int) + 1) = (k1 : Int) := by rw [IntKind.wrap_i64]; omega
  have hk6 : (k1 : Int) ≤ (xs.length : Int) := by omega
  have HK5 := Lib.hid hk5
  clear hk5
  go_enter Try.func7, Try.ntmps7
  go_wp2_with (first | (go_at_call 48; (with_reducible refine (cdGood_yes n _ xs B T _ HH.out HG.out).mono ?_); rintro e w0 ⟨rfl, hb0⟩; have h0 := HH.out.keep (belowSame hb0 hT); have hz0 := hb0.size) | (go_at_call 49; (refine (reTriangled_yes n _ _ xs B T _ h0 (by omega) HG.out).mono ?_); rw [HT.out]; rintro e w1 ⟨rfl, hb1⟩; (have hb1 := hb0.trans (hb1.mono hz0)); have hz1 := hb1.size; have HS1 := Lib.hid (HS.out.later hb1)) | (go_at_call 50; (with_reducible refine (l1In_yes _ 0 _ _ ⟨by omega, by omega⟩).mono ?_); rintro e w2 ⟨rfl, rfl⟩))

  refine wp_region_held_drew (S := fun w' => Below w1.heap.size w1 w') (by kernel_rfl) (by (try dsimp only); go_grown) (fun hHeld => ?_)
  refine wpAnyH_take (i := 1) (v := ?v153) rfl (by kernel_rfl) (by kernel_rfl) (by kernel_rfl) (fun _ _ _ h => h) (Or.inl ⟨by rfl, ?hy153⟩) (by assumption) ?rest153
  case hy153 => (intro w hSw; (try dsimp only at hSw); go_simp; (try with_reducible rfl))
  simp only [Act.put, List.getElem_toArray, List.getElem_cons_zero, List.getElem_cons_succ, List.setIfInBounds_toArray, List.set_cons_zero, List.set_cons_succ]
  refine wpAnyH_take (i := 2) (v := ?v154) rfl (by kernel_rfl) (by kernel_rfl) (by kernel_rfl) (fun _ _ _ h => h) (Or.inl ⟨by rfl, ?hy154⟩) (by assumption) ?rest154
  case hy154 => (intro w hSw; (try dsimp only at hSw); go_simp; (try with_reducible rfl))
  simp only [Act.put, List.getElem_toArray, List.getElem_cons_zero, List.getElem_cons_succ, List.setIfInBounds_toArray, List.set_cons_zero, List.set_cons_succ]
  refine wpAnyH_take (i := 3) (v := ?v155) rfl (by kernel_rfl) (by kernel_rfl) (by kernel_rfl) (fun _ _ _ h => h) (Or.inl ⟨by rfl, ?hy155⟩) (by assumption) ?rest155
  case hy155 => (intro w hSw; (try dsimp only at hSw); go_simp; (try with_reducible rfl))
  simp only [Act.put, List.getElem_toArray, List.getElem_cons_zero, List.getElem_cons_succ, List.setIfInBounds_toArray, List.set_cons_zero, List.set_cons_succ]
  refine wpAnyH_take (i := 5) (v := ?v156) rfl (by kernel_rfl) (by kernel_rfl) (by kernel_rfl) (fun _ _ _ h => h) (Or.inl ⟨by rfl, ?hy156⟩) (by assumption) ?rest156
  case hy156 => (intro w hSw; (try dsimp only at hSw); go_simp; (try with_reducible rfl))
  simp only [Act.put, List.getElem_toArray, List.getElem_cons_zero, List.getElem_cons_succ, List.setIfInBounds_toArray, List.set_cons_zero, List.set_cons_succ]
  refine wpAnyH_take (i := 6) (v := ?v157) rfl (by kernel_rfl) (by kernel_rfl) (by kernel_rfl) (fun _ _ _ h => h) (Or.inl ⟨by rfl, ?hy157⟩) (by assumption) ?rest157
  case hy157 => (intro w hSw; (try dsimp only at hSw); go_simp; (try with_reducible rfl))
  simp only [Act.put, List.getElem_toArray, List.getElem_cons_zero, List.getElem_cons_succ, List.setIfInBounds_toArray, List.set_cons_zero, List.set_cons_succ]
  refine wpAnyH_take (i := 7) (v := ?v158) rfl (by kernel_rfl) (by kernel_rfl) (by kernel_rfl) (fun _ _ _ h => h) (Or.inl ⟨by rfl, ?hy158⟩) (by assumption) ?rest158
  case hy158 => (intro w hSw; (try dsimp only at hSw); go_simp; (try with_reducible rfl))
  simp only [Act.put, List.getElem_toArray, List.getElem_cons_zero, List.getElem_cons_succ, List.setIfInBounds_toArray, List.set_cons_zero, List.set_cons_succ]
  refine wpAnyH_take (i := 8) (v := ?v159) rfl (by kernel_rfl) (by kernel_rfl) (by kernel_rfl) (fun _ _ _ h => h) (Or.inl ⟨by rfl, ?hy159⟩) (by assumption) ?rest159
  case hy159 => (intro w hSw; (try dsimp only at hSw); go_simp; (try with_reducible rfl))
  simp only [Act.put, List.getElem_toArray, List.getElem_cons_zero, List.getElem_cons_succ, List.setIfInBounds_toArray, List.set_cons_zero, List.set_cons_succ]
  refine wpAnyH_ready (rs := [0]) (by kernel_rfl) (by simp) ?_
  refine AllReadyH.cons rfl (fun K hK => ?_) AllReadyH.nil
  simp only [List.getElem_toArray, List.getElem_cons_zero]
  go_simp
  refine hK.out _ _ (by (try dsimp only); go_grown) (fun hHeld => ?_)
  clear hK K
  have hI0 := Lib.hid (Pairs.boxed w1.drew w1.heap.size 52 [] (Nat.le_refl _) (by simp))
  refine wpAnyH_ready (rs := [4]) (by kernel_rfl) (by simp) ?_
  refine AllReadyH.cons rfl (fun K hK => ?_) AllReadyH.nil
  simp only [List.getElem_toArray, List.getElem_cons_zero, List.getElem_cons_succ]
  rw [if_pos (by rfl)]; refine wp_append_pairs (.tmp 30) (.tmp 33) 24 rfl w1.heap.size 52 Try.underlying24 info_chord (.slice (some ⟨w1.heap.size, 0, none⟩) 0 0) (.slice (some ⟨gx, 0, none⟩) k cap) [] (xs.take k) rfl rfl hI0.out (src_take (xs := xs) (k := k) (HS1.out.later hHeld) (by omega)) (by simp; omega) hHeld.size ?_; intro v2 w2 hI2 hg2 _
  refine hK.out _ _ (by (try dsimp only); exact Pairs.below hI0.out hHeld hHeld.size hg2) (fun hHeld => ?_)
  clear hK K
  simp only [Act.put, List.setIfInBounds_toArray, List.set_cons_zero, List.set_cons_succ]
  refine wpAnyH_ready (rs := [9]) (by kernel_rfl) (by simp) ?_
  refine AllReadyH.cons rfl (fun K hK => ?_) AllReadyH.nil
  simp only [List.getElem_toArray, List.getElem_cons_zero, List.getElem_cons_succ]
  rw [if_pos (by rfl)]; refine wp_append_pairs (.tmp 34) (.tmp 38) 24 rfl w1.heap.size 52 Try.underlying24 info_chord v2 _ ([] ++ xs.take k) (xs.drop k1) rfl rfl hI2 (src_drop_if (xs := xs) (k := k1) (HS1.out.later hHeld) (by omega) (by omega)) (by simp; omega) hHeld.size ?_; intro v3 w3 hI3 hg3 _
  refine hK.out _ _ (by (try dsimp only); exact Pairs.below hI2 hHeld hHeld.size hg3) (fun hHeld => ?_)
  clear hK K
  simp only [Act.put, List.setIfInBounds_toArray, List.set_cons_zero, List.set_cons_succ]
  refine wpAnyH_take (i := 10) (v := ?v160) rfl (by kernel_rfl) (by kernel_rfl) (by kernel_rfl) (fun _ _ _ h => h) (Or.inl ⟨by rfl, ?hy160⟩) (by assumption) ?rest160
  case hy160 => (intro w hSw; (try dsimp only at hSw); go_simp; (try with_reducible rfl))
  simp only [Act.put, List.getElem_toArray, List.getElem_cons_zero, List.getElem_cons_succ, List.setIfInBounds_toArray, List.set_cons_zero, List.set_cons_succ]
  refine wpAnyH_done (by kernel_rfl) ?_ _
  have hI4 : PairsIn 52 w3 w1.heap.size w3.heap.size v3 rest := by
    have := hI3.inn
    rwa [List.nil_append, HK5.out, ← HR0.out] at this
  have HI4 := Lib.hid hI4
  have hb3 := hb1.trans (hHeld.mono hz1)
  have hz3 := hHeld.size
  have EX3 := Lib.hid (cellB hb3 EX.out)
  have EY3 := Lib.hid (cellB hb3 EY.out)
  clear hI0 hI2 hI3 hI4 hHeld hg2 hg3
  generalize (if cap = k1 then some (⟨gx, 0, none⟩ : Addr) else some ⟨gx, k1 * 2, none⟩) = adr
  go_wp2_with (first | (go_at_call 51; (with_reducible refine (HHR.out _ _ _ _ HI4.out (Nat.le_refl _)).mono ?_); rintro e w4 ⟨v, rfl, hI, hb4⟩; have hz4 := hb4.size; obtain ⟨ws, hR⟩ := hI; obtain ⟨ar, cr, gr, rfl, har, _, hcr, _⟩ := hR.view; have HR := Lib.hid hR; have HAR := Lib.hid har; have HCR := Lib.hid hcr; clear hR har hcr))
  have EX4 := Lib.hid (cellB hb4 EX3.out)
  have EY4 := Lib.hid (cellB hb4 EY3.out)
  have hB4 := hb3.trans (hb4.mono (by omega))
  have HI5 := Lib.hid (HI4.out.keep (belowSame hb4 (Nat.le_refl _)))
  have hkx : (k : Int) < (xs.length : Int) := by omega
  go_loopw [44] (fun i wr => ∃ j : Nat, j ≤ L.length ∧ i = .int .i64 (j : Int) ∧ Hid (∀ m, m < j → L.getD m [] ≠ [a, b, d, e]) ∧ Below w4.heap.size w4 wr) (fun i _ => L.length - (intOf i).toNat)
  case atStart => exact ⟨0, by omega, rfl, Lib.hid (fun m hm => by omega), Below.refl _ _⟩
  case round =>
    obtain ⟨j, hj, rfl, HM, hB⟩ := hrel
    obtain ⟨wo, rfl⟩ : ∃ q, q = wr := ⟨wr, rfl⟩
    have hz := hB.size
    by_cases hlt : j < L.length
    · obtain rfl := HAR.out (by omega)
      have e0 := cellB hB (HCR.out j hlt)
      have hrow := HR.out.rows j hlt
      obtain ⟨_, hp60⟩ := HRW.out j hlt
      have hmem : L.getD j [] ∈ L := by rw [getD_at _ _ _ hlt]; exact List.getElem_mem _
      obtain ⟨S, hS⟩ : ∃ S, L.getD j [] = S := ⟨_, rfl⟩
      rw [hS] at hrow hp60 hmem
      have HN := Lib.hid (show S ≠ [a, b, d, e] → ∀ m, m < j + 1 → L.getD m [] ≠ [a, b, d, e] from fun hne m hm => by
        rcases Nat.lt_or_ge m j with h1 | h1
        · exact HM.out m h1
        · rw [show m = j by omega, hS]; exact hne)
      obtain ⟨rv, hrv⟩ : ∃ rv, ws.getD j (Value.slice none 0 0) = rv := ⟨_, rfl⟩
      rw [hrv] at hrow e0
      obtain ⟨a3, c3, g3, rfl, ha3, _, _, _, hc3, _⟩ := hrow.1.view
      have cx := cellB hB EX4.out
      have cy := cellB hB EY4.out
      have HROW := Lib.hid (hrow.1.later hB)
      have hj0 : (0 : Int) ≤ (j : Int) := by omega
      have hj1 : (j : Int) < (L.length : Int) := by omega
      have HC3 := Lib.hid hc3
      have HA3 := Lib.hid ha3
      have HMEM := Lib.hid hmem
      clear hrow hS hrv ha3 hc3 hmem
      by_cases h4 : S.length = 4
      · have h4' : ((S.length : Int) == 4) = true := by rw [h4]; rfl
        have H4 := Lib.hid h4
        clear h4
        obtain ⟨t1, ht1⟩ : ∃ t, S.contains x = t := ⟨_, rfl⟩
        obtain ⟨t2, ht2⟩ : ∃ t, S.contains y = t := ⟨_, rfl⟩
        have HC1 := Lib.hid ht1
        have HC2 := Lib.hid ht2
        clear ht1 ht2
        cases t1 with
        | false =>
          have HN1 := Lib.hid (HN.out (fun e1 => by
            have h1 := HC1.out
            have h2 := HBOTH.out
            rw [e1] at h1
            unfold bothR at h2
            simp only at h2
            rw [h1] at h2
            simp at h2))
          go_wp2_with (go_at_call 52; (with_reducible refine (has_any _ S x _ _ _ _ HROW.out (by omega) HC1.out).mono ?_); rintro ee w5 ⟨rfl, rfl⟩)
          all_goals
            go_roundw
            case rel => exact ⟨j + 1, by omega, by go_num, HN1, hB⟩
            case measure => simp [intOf]; omega
        | true =>
          cases t2 with
          | false =>
            have HN1 := Lib.hid (HN.out (fun e1 => by
              have h1 := HC2.out
              have h2 := HBOTH.out
              rw [e1] at h1
              unfold bothR at h2
              simp only at h2
              rw [h1] at h2
              simp at h2))
            go_wp2_with (first | (go_at_call 52; (with_reducible refine (has_any _ S x _ _ _ _ HROW.out (by omega) HC1.out).mono ?_); rintro ee w5 ⟨rfl, rfl⟩) | (go_at_call 52; (with_reducible refine (has_any _ S y _ _ _ _ HROW.out (by omega) HC2.out).mono ?_); rintro ee w5 ⟨rfl, rfl⟩))
            all_goals
              go_roundw
              case rel => exact ⟨j + 1, by omega, by go_num, HN1, hB⟩
              case measure => simp [intOf]; omega
          | true =>
            have hSe : S = [a, b, d, e] := HONE.out S HMEM.out (by unfold bothR; simp only; rw [HC1.out, HC2.out]; rfl)
            obtain rfl := HA3.out (by have := H4.out; omega)
            subst hSe
            have r0 : wo.cell? ⟨g3, 0, none⟩ = some (.int .i64 a) := cellB hB (HC3.out 0 (by simp))
            have r1 : wo.cell? ⟨g3, 1, none⟩ = some (.int .i64 b) := cellB hB (HC3.out 1 (by simp))
            have r2 : wo.cell? ⟨g3, 2, none⟩ = some (.int .i64 d) := cellB hB (HC3.out 2 (by simp))
            have r3 : wo.cell? ⟨g3, 3, none⟩ = some (.int .i64 e) := cellB hB (HC3.out 3 (by simp))
            have e4 : wo.cell? ⟨gr, j, none⟩ = some (.slice (some ⟨g3, 0, none⟩) 4 c3) := e0
            have lg3 : g3 < wo.heap.size := by have := World.block_lt_of_cell? _ _ r0; simpa using this
            have lgx : gx < wo.heap.size := by have := World.block_lt_of_cell? _ _ cx; simpa using this
            have HROW4 := Lib.hid (show Ints wo _ _ (.slice (some ⟨g3, 0, none⟩) 4 c3) [a, b, d, e] from HROW.out)
            clear e0 h4' hp60
            rcases HCASE.out with ⟨⟨hxa, hyd⟩, hfb, hge⟩ | ⟨⟨hxb, hye⟩, hfa, hgd⟩
            · subst hxa hyd hfb hge
              go_wp2_with (first | (go_at_call 52; (with_reducible refine (has_any _ _ _ _ _ _ _ HROW4.out (by simp) HC1.out).mono ?_); rintro ee w5 ⟨rfl, rfl⟩) | (go_at_call 52; (with_reducible refine (has_any _ _ _ _ _ _ _ HROW4.out (by simp) HC2.out).mono ?_); rintro ee w5 ⟨rfl, rfl⟩))
              go_region_held3 (fun w' => w'.cell? ⟨g3, 0, none⟩ = some (.int .i64 x) ∧ w'.cell? ⟨g3, 1, none⟩ = some (.int .i64 f) ∧ w'.cell? ⟨g3, 2, none⟩ = some (.int .i64 y) ∧ w'.cell? ⟨g3, 3, none⟩ = some (.int .i64 g) ∧ w'.cell? ⟨gx, k * 2, none⟩ = some (.int .i64 x) ∧ w'.cell? ⟨gx, k * 2 + 1, none⟩ = some (.int .i64 y)) (go_keep) (fail)
              go_wp2
              go_quiet (fail)
              obtain ⟨W0, hW0⟩ : ∃ z, z = ((wo.alloc (.cells #[.int .i64 x, .int .i64 y] 52)).drew.drewN nq) := ⟨_, rfl⟩
              rw [← hW0]
              have hbW : Below wo.heap.size wo W0 := by rw [hW0]; exact bdn (by go_grown) _
              have hBW : Below w4.heap.size w4 W0 := hB.trans (hbW.mono hz)
              have hzW := hBW.size
              have c0 : W0.cell? ⟨wo.heap.size, 0, none⟩ = some (.int .i64 x) := by rw [hW0]; go_simp
              have c1 : W0.cell? ⟨wo.heap.size, 1, none⟩ = some (.int .i64 y) := by rw [hW0]; go_simp
              have f0 : W0.frozen? ⟨wo.heap.size, 0, none⟩ = false := by rw [hW0]; go_simp
              have f1 : W0.frozen? ⟨wo.heap.size, 1, none⟩ = false := by rw [hW0]; go_simp
              have s1 := cellB hbW r1
              have s3 := cellB hbW r3
              clear hW0
              have q1 : ¬ g3 = wo.heap.size := by omega
              have q2 : ¬ wo.heap.size = g3 := by omega
              go_wp2
              go_region_held3 (fun w' => w'.cell? ⟨g3, 1, none⟩ = some (.int .i64 f) ∧ w'.cell? ⟨g3, 3, none⟩ = some (.int .i64 g)) (go_keep) (fail)
              go_wp2_with (first | (go_at_call 53; (refine (srPut_any v3 rest f g w1.heap.size w3.heap.size _ (HI5.out.keep (belowSame (Below.trans hBW (by first | exact Below.refl _ _ | go_grown)) hz4)) (by first | omega | (simp; omega)) (by first | omega | (simp; omega)) (by omega)).mono ?_); rintro ee w9 ⟨v9, rfl, hI9, hb9⟩))
              go_ret2
              refine ⟨_, rfl, PairsIn.wider hI9 hz1 (Nat.le_refl _), (hB4.trans (hBW.mono (by omega))).trans (Below.trans (by first | exact Below.refl _ _ | go_grown) (hb9.mono (by first | omega | (simp; omega))))⟩
            · subst hxb hye hfa hgd
              have hne : (f == x) = false := beq_eq_false_iff_ne.2 (by omega)
              go_wp2_with (first | (go_at_call 52; (with_reducible refine (has_any _ _ _ _ _ _ _ HROW4.out (by simp) HC1.out).mono ?_); rintro ee w5 ⟨rfl, rfl⟩) | (go_at_call 52; (with_reducible refine (has_any _ _ _ _ _ _ _ HROW4.out (by simp) HC2.out).mono ?_); rintro ee w5 ⟨rfl, rfl⟩))
              go_region_held3 (fun w' => w'.cell? ⟨g3, 0, none⟩ = some (.int .i64 f) ∧ w'.cell? ⟨g3, 1, none⟩ = some (.int .i64 x) ∧ w'.cell? ⟨g3, 2, none⟩ = some (.int .i64 g) ∧ w'.cell? ⟨g3, 3, none⟩ = some (.int .i64 y) ∧ w'.cell? ⟨gx, k * 2, none⟩ = some (.int .i64 x) ∧ w'.cell? ⟨gx, k * 2 + 1, none⟩ = some (.int .i64 y)) (go_keep) (fail)
              go_wp2
              go_quiet (fail)
              obtain ⟨W0, hW0⟩ : ∃ z, z = ((wo.alloc (.cells #[.int .i64 f, .int .i64 g] 52)).drew.drewN nq) := ⟨_, rfl⟩
              rw [← hW0]
              have hbW : Below wo.heap.size wo W0 := by rw [hW0]; exact bdn (by go_grown) _
              have hBW : Below w4.heap.size w4 W0 := hB.trans (hbW.mono hz)
              have hzW := hBW.size
              have c0 : W0.cell? ⟨wo.heap.size, 0, none⟩ = some (.int .i64 f) := by rw [hW0]; go_simp
              have c1 : W0.cell? ⟨wo.heap.size, 1, none⟩ = some (.int .i64 g) := by rw [hW0]; go_simp
              have f0 : W0.frozen? ⟨wo.heap.size, 0, none⟩ = false := by rw [hW0]; go_simp
              have f1 : W0.frozen? ⟨wo.heap.size, 1, none⟩ = false := by rw [hW0]; go_simp
              have s1 := cellB hbW r1
              have s3 := cellB hbW r3
              clear hW0
              go_wp2_with (first | (go_at_call 53; (refine (srPut_any v3 rest f g w1.heap.size w3.heap.size _ (HI5.out.keep (belowSame (Below.trans hBW (by first | exact Below.refl _ _ | go_grown)) hz4)) (by first | omega | (simp; omega)) (by first | omega | (simp; omega)) (by omega)).mono ?_); rintro ee w9 ⟨v9, rfl, hI9, hb9⟩))
              go_ret2
              refine ⟨_, rfl, PairsIn.wider hI9 hz1 (Nat.le_refl _), (hB4.trans (hBW.mono (by omega))).trans (Below.trans (by first | exact Below.refl _ _ | go_grown) (hb9.mono (by first | omega | (simp; omega))))⟩
      · have h4' : ((S.length : Int) == 4) = false := beq_eq_false_iff_ne.2 (by omega)
        have HN1 := Lib.hid (HN.out (fun e1 => h4 (by rw [e1]; rfl)))
        go_wp2
        go_roundw
        case rel => exact ⟨j + 1, by omega, by go_num, HN1, hB⟩
        case measure => simp [intOf]; omega
    · exfalso
      obtain rfl : j = L.length := by omega
      obtain ⟨m, hm, he⟩ := List.getElem_of_mem HIN.out
      exact HM.out m hm (by rw [getD_at _ _ _ hm, he])

end Go.Proofs.Ytnldnjgnpdicnaa

namespace Go.Proofs.Ytnldnjgnpdicnaa
open Go.RowKit
set_option linter.unusedVariables false

set_option maxHeartbeats 1000000 in
theorem core_FlipDiagonal (p : Int) (v : Value) (xs : List (Int × Int)) (k : Int) (x : List (Int × Int)) (b : Bool) (w : World) (hA : ArgP w v xs) (hn : xs.length ≤ 1048576) (hx : x.length ≤ 1000000)
    (hs : ∀ (W : World) (u : Value) (B T : Nat), PairsIn 52 W B T u xs → T ≤ W.heap.size → Calls Try.prog 7 #[.int .i64 p, u, .int .i64 k] W (Gives (PairsIn 52) W x b))
    (hi : ∀ (W : World) (u : Value) (B T : Nat), PairsIn 52 W B T u xs → T ≤ W.heap.size → Calls Try.prog 9 #[.int .i64 p, u, .int .i64 k] W (Gives (PairsIn 52) W x b)) :
    Calls Try.prog 3 #[.int .i64 p, v, .int .i64 k] w fun e w' => e = .returned (.bool true) ∧ Below w.heap.size w w' := by
  have hA1 := hA
  obtain ⟨a0, cap, a, rfl, _⟩ := hA1
  have HS := Lib.hid hs
  have HI := Lib.hid hi
  have HA := Lib.hid hA
  clear hs hi hA
  go_enter Try.func3, Try.ntmps3
  go_wp2_with fail
  refine (szChordS_yes _ _ _ _ hn).mono ?_
  rintro e w0 ⟨rfl, rfl⟩
  go_wp2_with fail
  refine (toChordS_any _ _ _ (HA.out.later (by go_grown)) hn).mono ?_
  rintro e w1 ⟨va, rfl, ka_1, hb1⟩
  have n1 : w.heap.size ≤ w1.heap.size := by have := hb1.size; (try simp at this); omega
  have B1 : Below w.heap.size w w1 := Below.trans (by go_grown) (hb1.mono (by first | (simp; done) | (simp; omega)))
  go_wp2_with fail
  refine (HS.out _ _ _ _ ka_1 (by omega)).mono ?_
  rintro e w2 ⟨vw, rfl, kw_2, hb2⟩
  have n2 := hb2.size
  have B2 := B1.trans (hb2.mono (by omega))
  have ka_2 := ka_1.keep (belowSame hb2 (by omega))
  go_wp2_with fail
  refine (toChordS_any _ _ _ (HA.out.later B2) hn).mono ?_
  rintro e w3 ⟨vc, rfl, kc_3, hb3⟩
  have n3 := hb3.size
  have B3 := B2.trans (hb3.mono (by omega))
  have ka_3 := ka_2.keep (belowSame hb3 (by omega))
  have kw_3 := kw_2.keep (belowSame hb3 (by omega))
  go_wp2_with fail
  refine (HI.out _ _ _ _ kc_3 (by omega)).mono ?_
  rintro e w4 ⟨vg, rfl, kg_4, hb4⟩
  have n4 := hb4.size
  have B4 := B3.trans (hb4.mono (by omega))
  have ka_4 := ka_3.keep (belowSame hb4 (by omega))
  have kw_4 := kw_3.keep (belowSame hb4 (by omega))
  have kc_4 := kc_3.keep (belowSame hb4 (by omega))
  go_wp2_with fail
  refine (eqChordS_in _ _ _ _ _ _ _ _ _ kg_4 kw_4).mono ?_
  rintro e w5 ⟨rfl, hb5⟩
  have n5 := hb5.size
  have B5 := B4.trans (hb5.mono (by omega))
  have ka_5 := ka_4.keep (belowSame hb5 (by omega))
  have kw_5 := kw_4.keep (belowSame hb5 (by omega))
  have kc_5 := kc_4.keep (belowSame hb5 (by omega))
  have kg_5 := kg_4.keep (belowSame hb5 (by omega))
  go_wp2_with fail
  refine (toChordS_any _ _ _ (HA.out.later B5) hn).mono ?_
  rintro e w6 ⟨vd, rfl, kd_6, hb6⟩
  have n6 := hb6.size
  have B6 := B5.trans (hb6.mono (by omega))
  have ka_6 := ka_5.keep (belowSame hb6 (by omega))
  have kw_6 := kw_5.keep (belowSame hb6 (by omega))
  have kc_6 := kc_5.keep (belowSame hb6 (by omega))
  have kg_6 := kg_5.keep (belowSame hb6 (by omega))
  go_wp2_with fail
  refine (eqChordS_in _ _ _ _ _ _ _ _ _ kc_6 kd_6).mono ?_
  rintro e w7 ⟨rfl, hb7⟩
  have n7 := hb7.size
  have B7 := B6.trans (hb7.mono (by omega))
  have ka_7 := ka_6.keep (belowSame hb7 (by omega))
  have kw_7 := kw_6.keep (belowSame hb7 (by omega))
  have kc_7 := kc_6.keep (belowSame hb7 (by omega))
  have kg_7 := kg_6.keep (belowSame hb7 (by omega))
  have kd_7 := kd_6.keep (belowSame hb7 (by omega))
  go_wp2_with fail
  refine (markChordS_in _ _ 1 _ _ _ _ kc_7 (by omega) (by omega) (by omega)).mono ?_
  rintro e w8 ⟨rfl, mc_8, o8⟩
  have n8 := o8.size
  have B8 := B7.trans (o8.below (C := w.heap.size) (by omega) (by omega))
  have ka_8 := ka_7.keep (o8.same_in (by omega) (by omega))
  have kw_8 := kw_7.keep (o8.same_in (by omega) (by omega))
  have kg_8 := kg_7.keep (o8.same_in (by omega) (by omega))
  have kd_8 := kd_7.keep (o8.same_in (by omega) (by omega))
  have kc_8 := mc_8
  go_wp2_with fail
  refine (eqChordS_in _ _ _ _ _ _ _ _ _ kg_8 kw_8).mono ?_
  rintro e w9 ⟨rfl, hb9⟩
  have n9 := hb9.size
  have B9 := B8.trans (hb9.mono (by omega))
  have ka_9 := ka_8.keep (belowSame hb9 (by omega))
  have kw_9 := kw_8.keep (belowSame hb9 (by omega))
  have kc_9 := kc_8.keep (belowSame hb9 (by omega))
  have kg_9 := kg_8.keep (belowSame hb9 (by omega))
  have kd_9 := kd_8.keep (belowSame hb9 (by omega))
  go_wp2_with fail
  refine (markChordS_in _ _ 1 _ _ _ _ kg_9 (by omega) (by omega) (by omega)).mono ?_
  rintro e w10 ⟨rfl, mg_10, o10⟩
  have n10 := o10.size
  have B10 := B9.trans (o10.below (C := w.heap.size) (by omega) (by omega))
  have ka_10 := ka_9.keep (o10.same_in (by omega) (by omega))
  have kw_10 := kw_9.keep (o10.same_in (by omega) (by omega))
  have kc_10 := kc_9.keep (o10.same_in (by omega) (by omega))
  have kd_10 := kd_9.keep (o10.same_in (by omega) (by omega))
  have kg_10 := mg_10
  go_wp2_with fail
  refine (heldChordS_in _ 1 _ _ _ _ _ kg_10 (by omega) (by omega) (by omega)).mono ?_
  rintro e w11 ⟨rfl, hb11⟩
  have n11 := hb11.size
  have B11 := B10.trans (hb11.mono (by omega))
  have ka_11 := ka_10.keep (belowSame hb11 (by omega))
  have kw_11 := kw_10.keep (belowSame hb11 (by omega))
  have kc_11 := kc_10.keep (belowSame hb11 (by omega))
  have kg_11 := kg_10.keep (belowSame hb11 (by omega))
  have kd_11 := kd_10.keep (belowSame hb11 (by omega))
  go_wp2_with fail
  refine (toChordS_any _ _ _ (HA.out.later B11) hn).mono ?_
  rintro e w12 ⟨ve, rfl, ke_12, hb12⟩
  have n12 := hb12.size
  have B12 := B11.trans (hb12.mono (by omega))
  have ka_12 := ka_11.keep (belowSame hb12 (by omega))
  have kw_12 := kw_11.keep (belowSame hb12 (by omega))
  have kc_12 := kc_11.keep (belowSame hb12 (by omega))
  have kg_12 := kg_11.keep (belowSame hb12 (by omega))
  have kd_12 := kd_11.keep (belowSame hb12 (by omega))
  go_wp2_with fail
  refine (HI.out _ _ _ _ ke_12 (by omega)).mono ?_
  rintro e w13 ⟨vh, rfl, kh_13, hb13⟩
  have n13 := hb13.size
  have B13 := B12.trans (hb13.mono (by omega))
  have ka_13 := ka_12.keep (belowSame hb13 (by omega))
  have kw_13 := kw_12.keep (belowSame hb13 (by omega))
  have kc_13 := kc_12.keep (belowSame hb13 (by omega))
  have kg_13 := kg_12.keep (belowSame hb13 (by omega))
  have kd_13 := kd_12.keep (belowSame hb13 (by omega))
  have ke_13 := ke_12.keep (belowSame hb13 (by omega))
  go_wp2_with fail
  refine (eqChordS_in _ _ _ _ _ _ _ _ _ kh_13 kw_13).mono ?_
  rintro e w14 ⟨rfl, hb14⟩
  have n14 := hb14.size
  have B14 := B13.trans (hb14.mono (by omega))
  have ka_14 := ka_13.keep (belowSame hb14 (by omega))
  have kw_14 := kw_13.keep (belowSame hb14 (by omega))
  have kc_14 := kc_13.keep (belowSame hb14 (by omega))
  have kg_14 := kg_13.keep (belowSame hb14 (by omega))
  have kd_14 := kd_13.keep (belowSame hb14 (by omega))
  have ke_14 := ke_13.keep (belowSame hb14 (by omega))
  have kh_14 := kh_13.keep (belowSame hb14 (by omega))
  go_wp2_with fail
  refine (heldChordS_in _ 1 _ _ _ _ _ kg_14 (by omega) (by omega) (by omega)).mono ?_
  rintro e w15 ⟨rfl, hb15⟩
  have n15 := hb15.size
  have B15 := B14.trans (hb15.mono (by omega))
  have ka_15 := ka_14.keep (belowSame hb15 (by omega))
  have kw_15 := kw_14.keep (belowSame hb15 (by omega))
  have kc_15 := kc_14.keep (belowSame hb15 (by omega))
  have kg_15 := kg_14.keep (belowSame hb15 (by omega))
  have kd_15 := kd_14.keep (belowSame hb15 (by omega))
  have ke_15 := ke_14.keep (belowSame hb15 (by omega))
  have kh_15 := kh_14.keep (belowSame hb15 (by omega))
  go_wp2_with fail
  go_ret
  exact ⟨rfl, B15⟩

set_option maxHeartbeats 400000 in
theorem long_FlipDiagonal (p : Int) (v : Value) (xs : List (Int × Int)) (k : Int) (w : World) (hA : ArgP w v xs) (hn : ¬ xs.length ≤ 1048576) :
    Calls Try.prog 3 #[.int .i64 p, v, .int .i64 k] w fun e w' => e = .returned (.bool true) ∧ Below w.heap.size w w' := by
  obtain ⟨a0, cap, a, rfl, _, hm, _⟩ := hA
  go_enter Try.func3, Try.ntmps3
  go_wp2_with fail
  refine (szChordS_no _ _ _ _ (by omega) hm).mono ?_
  rintro e w0 ⟨rfl, rfl⟩
  go_wp2_with fail
  go_ret
  exact ⟨rfl, by go_grown⟩

theorem walk_FlipDiagonal (p : Int) (v : Value) (xs : List (Int × Int)) (k : Int) (w : World) (_ : (Lit.int .i64 p).wf = true) (hA : ArgP w v xs) (_ : (Lit.int .i64 k).wf = true) :
    Calls Try.prog 3 #[.int .i64 p, v, .int .i64 k] w fun e w' => e = .returned (.bool true) ∧ Below w.heap.size w w' := by
  by_cases hn : xs.length ≤ 1048576
  · by_cases hg : goodC p xs
    · have hp := hg.1
      obtain ⟨n, rfl⟩ := Int.eq_ofNat_of_zero_le (by omega : 0 ≤ p)
      cases ht : triB n xs with
      | true =>
        by_cases hk : 0 ≤ k ∧ k < xs.length
        · obtain ⟨j, rfl⟩ := Int.eq_ofNat_of_zero_le hk.1
          have hj : j < xs.length := by omega
          obtain ⟨x, y, hxy⟩ : ∃ x y, xs.getD j (0, 0) = (x, y) := ⟨_, _, rfl⟩
          obtain ⟨a, b, d, e, f, g, u, u', hord, hin, hone, hboth, hthird, hcase, hmap, hmin, hmax, hput, hnew, hgr, hplr, _, _⟩ := flip_all hg ht hj hxy rfl
          have hln := hg.2.1
          refine core_FlipDiagonal n v xs j (sortL (xs.set j (f, g))) true w hA hn (by rw [sortL_length]; simp; omega) (fun W u B T h hT => ?_) (fun W u B T h hT => ?_)
          · rw [← hput]
            exact sFlip_yes n u xs _ j B T W h hT hg ht hj hxy rfl hgr hplr hord hin hone hboth hcase
          · obtain ⟨a0, c0, rfl⟩ := h.pairs.opened
            exact iFlip_yes n a0 c0 xs B T W h hT hg ht j hj hxy hmap hthird hmin hmax
        · refine core_FlipDiagonal n v xs k [] false w hA hn (by simp) (fun W u B T h hT => ?_) (fun W u B T h hT => ?_)
          · obtain ⟨a0, c0, rfl⟩ := h.pairs.opened
            exact sFlip_out n a0 c0 xs k B T W h hT hg ht (by omega)
          · obtain ⟨a0, c0, rfl⟩ := h.pairs.opened
            by_cases h0 : k < 0
            · exact iFlip_low n a0 c0 xs k B T W h hT h0
            · exact iFlip_high n a0 c0 xs k B T W h hT h0 (by omega)
      | false =>
        refine core_FlipDiagonal n v xs k [] false w hA hn (by simp) (fun W u B T h hT => ?_) (fun W u B T h hT => ?_)
        · obtain ⟨a0, c0, rfl⟩ := h.pairs.opened
          exact sFlip_not n a0 c0 xs k B T W h hT hg ht
        · obtain ⟨a0, c0, rfl⟩ := h.pairs.opened
          by_cases h0 : k < 0
          · exact iFlip_low n a0 c0 xs k B T W h hT h0
          · by_cases h1 : (xs.length : Int) ≤ k
            · exact iFlip_high n a0 c0 xs k B T W h hT h0 h1
            · exact iFlip_not n a0 c0 xs k B T W h hT h0 h1 hg ht
    · refine core_FlipDiagonal p v xs k [] false w hA hn (by simp) (fun W u B T h hT => ?_) (fun W u B T h hT => ?_)
      · obtain ⟨a0, c0, rfl⟩ := h.pairs.opened
        exact sFlip_bad p a0 c0 xs k B T W h hT hg
      · obtain ⟨a0, c0, rfl⟩ := h.pairs.opened
        by_cases h0 : k < 0
        · exact iFlip_low p a0 c0 xs k B T W h hT h0
        · by_cases h1 : (xs.length : Int) ≤ k
          · exact iFlip_high p a0 c0 xs k B T W h hT h0 h1
          · exact iFlip_bad p a0 c0 xs k B T W h hT h0 h1 hg
  · exact long_FlipDiagonal p v xs k w hA hn

end Go.Proofs.Ytnldnjgnpdicnaa
