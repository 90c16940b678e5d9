/- Meetings on a thread: the program. -/
import Derived.Test.YtnldnjgnpdicnaaSc2
import Derived.Test.YtnldnjgnpdicnaaUGi
namespace Go.Proofs.Ytnldnjgnpdicnaa
open Go.RowKit
set_option linter.unusedVariables false

theorem cmpC_of {u : Value} {xs : List (Int × Int)} {B T k gl gk : Nat} {w : World} (h : PairsIn 83 w B T u xs) (hg : goodT xs) (hk : k < xs.length) (hl : w.cell? ⟨gl, 0, none⟩ = some u) (hkc : w.cell? ⟨gk, 0, none⟩ = some (.int .i64 (k : Int))) {g : Nat} (h1 : T ≤ g) (h2 : gl < g) (h3 : gk < g) (hT : T ≤ w.heap.size) :
    CmpC g w (selT (mtS xs k) xs.length) (cfS xs k) ⟨gl, 0, none⟩ ⟨gk, 0, none⟩ := by
  intro W x y hO hx hy
  obtain ⟨i, rfl, hi, mi⟩ := selT_memS hx
  obtain ⟨j, rfl, hj, mj⟩ := selT_memS hy
  exact sortFn_any gl gk u xs B T k i j W (h.keep (hO.same_in hT (.inl h1))) hg hk hi hj mi mj (hO.cell (.inl h2) hl) (hO.cell (.inl h3) hkc)

set_option maxHeartbeats 4000000 in
theorem iMeetings_yes (u : Value) (xs : List (Int × Int)) (k B T : Nat) (w : World) (h : PairsIn 83 w B T u xs) (hT : T ≤ w.heap.size) (hg : goodT xs) (hk : k < xs.length) :
    Calls Try.prog 16 #[u, .int .i64 (k : Int)] w fun e w' => ∃ v Z, e = .returned (.tuple #[v, .bool true]) ∧ IntsIn 3 w' w.heap.size w'.heap.size v Z ∧ MtS xs k xs.length Z ∧ Below w.heap.size w w' := by
  have hn : xs.length ≤ 30 := hg.1.2
  have HG := Lib.hid hg
  have HH := Lib.hid h
  obtain ⟨a1, c1, g1, rfl, ha1, hm, hx1, hy1⟩ := h.pairs.view
  obtain rfl := ha1 (by omega)
  obtain ⟨a, b, hab⟩ : ∃ a b, xs.getD k (0, 0) = (a, b) := ⟨_, _, rfl⟩
  have e0 := hx1 k hk
  have e1 := hy1 k hk
  rw [hab] at e0 e1
  simp only at e0 e1
  have HB0 : Hid (Below w.heap.size w ((w.alloc (.cells #[.slice (some ⟨g1, 0, none⟩) xs.length c1] 36)).alloc (.cells #[.int .i64 (k : Int)] 3))) := Lib.hid (by go_grown)
  have B0 : ((w.alloc (.cells #[.slice (some ⟨g1, 0, none⟩) xs.length c1] 36)).alloc (.cells #[.int .i64 (k : Int)] 3)).cell? ⟨w.heap.size, 0, none⟩ = some (.slice (some ⟨g1, 0, none⟩) xs.length c1) := by go_simp
  have B1 : ((w.alloc (.cells #[.slice (some ⟨g1, 0, none⟩) xs.length c1] 36)).alloc (.cells #[.int .i64 (k : Int)] 3)).cell? ⟨w.heap.size + 1, 0, none⟩ = some (.int .i64 (k : Int)) := by go_simp
  have HB00 := Lib.hid B0
  have HB01 := Lib.hid B1
  have HE0 := Lib.hid e0
  have HE1 := Lib.hid e1
  have HIM := Lib.hid (fun (W : World) hW1 hW2 => indicesMeeting_any (.slice (some ⟨g1, 0, none⟩) xs.length c1) xs B T W hW1 hW2 a b hn)
  have hsel : selT (fun k' => meetP (a, b) (xs.getD k' (0, 0))) xs.length = selT (mtS xs k) xs.length := by unfold mtS; rw [hab]
  rw [hsel] at HIM
  have hk0 : ¬ (k : Int) < 0 := by omega
  have hk1 : ¬ (xs.length : Int) ≤ (k : Int) := by omega
  have hk2 : (0 : Int) ≤ (k : Int) := by omega
  have hk3 : (k : Int) < (xs.length : Int) := by omega
  clear hg h hx1 hy1 hab ha1 hsel e0 e1 B0 B1
  go_enter Try.func16, Try.ntmps16
  go_wp2_with (first | (go_at_call 65; (with_reducible refine (AreThreads_yes _ xs B T _ (HH.out.keep (belowSame HB0.out hT)) HG.out).mono ?_); rintro e w1 ⟨rfl, hb1⟩; (have hz1 : w.heap.size + 2 ≤ w1.heap.size := by (have := hb1.size; simp at this; omega)); (have hB1 : Below w.heap.size w w1 := HB0.out.trans (hb1.mono (by simp; omega))); have d0 := cellB hb1 HB00.out; have d1 := cellB hb1 HB01.out; have d2 := cellB hB1 HE0.out; have d3 := cellB hB1 HE1.out))
  go_region_held3 (fun w' => w'.cell? ⟨w.heap.size, 0, none⟩ = some (.slice (some ⟨g1, 0, none⟩) xs.length c1) ∧ w'.cell? ⟨w.heap.size + 1, 0, none⟩ = some (.int .i64 (k : Int)) ∧ w'.cell? ⟨g1, k * 2, none⟩ = some (.int .i64 a) ∧ w'.cell? ⟨g1, k * 2 + 1, none⟩ = some (.int .i64 b)) (go_keep)
    (first | (go_at_call 66; (refine (HIM.out w1.drew (HH.out.keep (belowSame (show Below w.heap.size w w1.drew from bdn hB1 1) hT)) (by first | omega | (simp; omega))).mono ?_); rintro e w3 ⟨v, rfl, hI, hb3⟩; have f0 := cellB hb3 d0; have f1 := cellB hb3 d1; have f2 := cellB hb3 d2; have f3 := cellB hb3 d3; (have hB3 : Below w1.heap.size w1 w3 := by first | exact hb3 | exact (bdn (Below.refl _ _) _).trans hb3); (have hI3 : Ints w3 w1.heap.size 3 v (selT (mtS xs k) xs.length) := hI)))
  have hz3 := hB3.size
  have hBW := hB1.trans (hB3.mono (by omega))
  have HC := Lib.hid (fun (g : Nat) (hgg : w1.heap.size ≤ g) => cmpC_of (g := g) (gl := w.heap.size) (gk := w.heap.size + 1) (HH.out.keep (belowSame hBW hT)) HG.out hk f0 f1 (by omega) (by omega) (by omega) (by omega))
  have HO := Lib.hid (MtS.ord HG.out hk (Nat.le_refl _))
  have HI3 := Lib.hid hI3
  obtain ⟨a3, c3, hv3⟩ := hI3.openS
  subst hv3
  have hs30 := selT_length (mtS xs k) xs.length
  clear hI hI3
  go_wp2_with (first | (go_at_call 67; (refine (sortStable_any HO.out w1.heap.size _ _ _ _ _ HI3.out HC.out hz3 (fun z hz => hz) (selT_upS _ _) (by omega)).mono ?_); rintro e w5 ⟨rfl, ⟨Z, hZ, hp, hs⟩, hb5⟩; (have HZ := Lib.hid hZ); clear hZ))
  go_ret2
  exact ⟨_, Z, rfl, ⟨HZ.out.mono (by omega), HZ.out.inn.2⟩, ⟨hp, hs⟩, hBW.trans (hb5.mono (by omega))⟩

set_option maxHeartbeats 400000 in
theorem iMeetings_bad (u : Value) (xs : List (Int × Int)) (k : Int) (B T : Nat) (w : World) (h : PairsIn 83 w B T u xs) (hT : T ≤ w.heap.size) (hg : ¬ goodT xs) :
    Calls Try.prog 16 #[u, .int .i64 k] w fun e w' => e = .returned (.tuple #[.slice none 0 0, .bool false]) ∧ Below w.heap.size w w' := by
  have HG := Lib.hid hg
  have HH := Lib.hid h
  obtain ⟨a1, c1, g1, rfl, ha1, hm, hx1, hy1⟩ := h.pairs.view
  have HB0 : Hid (Below w.heap.size w ((w.alloc (.cells #[.slice a1 xs.length c1] 36)).alloc (.cells #[.int .i64 k] 3))) := Lib.hid (by go_grown)
  have B0 : ((w.alloc (.cells #[.slice a1 xs.length c1] 36)).alloc (.cells #[.int .i64 k] 3)).cell? ⟨w.heap.size, 0, none⟩ = some (.slice a1 xs.length c1) := by go_simp
  have B1 : ((w.alloc (.cells #[.slice a1 xs.length c1] 36)).alloc (.cells #[.int .i64 k] 3)).cell? ⟨w.heap.size + 1, 0, none⟩ = some (.int .i64 k) := by go_simp
  have HB00 := Lib.hid B0
  have HB01 := Lib.hid B1
  clear hg h hx1 hy1 ha1 B0 B1
  go_enter Try.func16, Try.ntmps16
  go_wp2_with (first | (go_at_call 65; (with_reducible refine (AreThreads_no _ xs B T _ (HH.out.keep (belowSame HB0.out hT)) HG.out).mono ?_); rintro e w1 ⟨rfl, hb1⟩; (have hB1 : Below w.heap.size w w1 := HB0.out.trans (hb1.mono (by simp; omega))); have d0 := cellB hb1 HB00.out; have d1 := cellB hb1 HB01.out))
  go_ret2
  exact ⟨rfl, hB1⟩

set_option maxHeartbeats 400000 in
theorem iMeetings_low (u : Value) (xs : List (Int × Int)) (k : Int) (B T : Nat) (w : World) (h : PairsIn 83 w B T u xs) (hT : T ≤ w.heap.size) (hg : goodT xs) (hk : k < 0) :
    Calls Try.prog 16 #[u, .int .i64 k] w fun e w' => e = .returned (.tuple #[.slice none 0 0, .bool false]) ∧ Below w.heap.size w w' := by
  have HG := Lib.hid hg
  have HH := Lib.hid h
  obtain ⟨a1, c1, g1, rfl, ha1, hm, hx1, hy1⟩ := h.pairs.view
  have HB0 : Hid (Below w.heap.size w ((w.alloc (.cells #[.slice a1 xs.length c1] 36)).alloc (.cells #[.int .i64 k] 3))) := Lib.hid (by go_grown)
  have B0 : ((w.alloc (.cells #[.slice a1 xs.length c1] 36)).alloc (.cells #[.int .i64 k] 3)).cell? ⟨w.heap.size, 0, none⟩ = some (.slice a1 xs.length c1) := by go_simp
  have B1 : ((w.alloc (.cells #[.slice a1 xs.length c1] 36)).alloc (.cells #[.int .i64 k] 3)).cell? ⟨w.heap.size + 1, 0, none⟩ = some (.int .i64 k) := by go_simp
  have HB00 := Lib.hid B0
  have HB01 := Lib.hid B1
  clear hg h hx1 hy1 ha1 B0 B1
  go_enter Try.func16, Try.ntmps16
  go_wp2_with (first | (go_at_call 65; (with_reducible refine (AreThreads_yes _ xs B T _ (HH.out.keep (belowSame HB0.out hT)) HG.out).mono ?_); rintro e w1 ⟨rfl, hb1⟩; (have hB1 : Below w.heap.size w w1 := HB0.out.trans (hb1.mono (by simp; omega))); have d0 := cellB hb1 HB00.out; have d1 := cellB hb1 HB01.out))
  go_ret2
  exact ⟨rfl, hB1⟩

set_option maxHeartbeats 400000 in
theorem iMeetings_high (u : Value) (xs : List (Int × Int)) (k : Int) (B T : Nat) (w : World) (h : PairsIn 83 w B T u xs) (hT : T ≤ w.heap.size) (hg : goodT xs) (hk0 : ¬ k < 0) (hk : (xs.length : Int) ≤ k) :
    Calls Try.prog 16 #[u, .int .i64 k] w fun e w' => e = .returned (.tuple #[.slice none 0 0, .bool false]) ∧ Below w.heap.size w w' := by
  have HG := Lib.hid hg
  have HH := Lib.hid h
  obtain ⟨a1, c1, g1, rfl, ha1, hm, hx1, hy1⟩ := h.pairs.view
  have HB0 : Hid (Below w.heap.size w ((w.alloc (.cells #[.slice a1 xs.length c1] 36)).alloc (.cells #[.int .i64 k] 3))) := Lib.hid (by go_grown)
  have B0 : ((w.alloc (.cells #[.slice a1 xs.length c1] 36)).alloc (.cells #[.int .i64 k] 3)).cell? ⟨w.heap.size, 0, none⟩ = some (.slice a1 xs.length c1) := by go_simp
  have B1 : ((w.alloc (.cells #[.slice a1 xs.length c1] 36)).alloc (.cells #[.int .i64 k] 3)).cell? ⟨w.heap.size + 1, 0, none⟩ = some (.int .i64 k) := by go_simp
  have HB00 := Lib.hid B0
  have HB01 := Lib.hid B1
  clear hg h hx1 hy1 ha1 B0 B1
  go_enter Try.func16, Try.ntmps16
  go_wp2_with (first | (go_at_call 65; (with_reducible refine (AreThreads_yes _ xs B T _ (HH.out.keep (belowSame HB0.out hT)) HG.out).mono ?_); rintro e w1 ⟨rfl, hb1⟩; (have hB1 : Below w.heap.size w w1 := HB0.out.trans (hb1.mono (by simp; omega))); have d0 := cellB hb1 HB00.out; have d1 := cellB hb1 HB01.out))
  go_ret2
  exact ⟨rfl, hB1⟩

end Go.Proofs.Ytnldnjgnpdicnaa
