/- What the laws do with slices of strings: they hold them against each other, mark them, and look for the marks. -/
import Derived.Test.YtpcebcgmbngababRows
import Derived.Test.YtpcebcgmbngababB3
import Derived.Test.YtpcebcgmbngababSL
import Derived.Test.YtpcebcgmbngababJ2
import Derived.Laws.BytesArg
import Derived.Deep.RegionHeld3
namespace Go.Proofs.Ytpcebcgmbngabab
open Go.RowKit
set_option linter.unusedVariables false

/-- The decimal digits of a number; 0 has none. -/
def digs (k : Nat) : List UInt8 := if h : k = 0 then [] else digs (k / 10) ++ [UInt8.ofNat (48 + k % 10)]
termination_by k
decreasing_by omega

theorem digs_zero : digs 0 = [] := by rw [digs]; rfl

theorem digs_step {k : Nat} (h : 0 < k) : digs k = digs (k / 10) ++ [UInt8.ofNat (48 + k % 10)] := by
  rw [digs, dif_neg (by omega)]

theorem digs_length : ∀ n k : Nat, k ≤ n → (digs k).length ≤ k
  | 0, k, h => by obtain rfl : k = 0 := by omega
                  rw [digs_zero]; simp
  | n + 1, k, h => by
    by_cases h0 : k = 0
    · subst h0; rw [digs_zero]; simp
    · have := digs_length n (k / 10) (by omega)
      rw [digs_step (by omega), List.length_append]
      simp
      omega

/-- The mark of a number. -/
def mkT (k : Nat) : ByteArray := txL (109 :: digs k)

set_option maxHeartbeats 1000000 in
set_option maxRecDepth 100000 in
theorem markText_any (k0 : Nat) (w : World) (h1 : 1 ≤ k0) (h2 : k0 ≤ 100000000) :
    Calls Try.prog 58 #[.int .i64 k0] w fun e w' => e = .returned (.string (mkT k0)) ∧ Below w.heap.size w w' := by
  have hl0 := digs_length k0 k0 (Nat.le_refl _)
  have HL0 := Lib.hid hl0
  have hpos : ¬ (k0 : Int) ≤ 0 := by omega
  have HR : Hid (mkT k0 = txL (109 :: digs k0)) := Lib.hid rfl
  obtain ⟨D, hD⟩ : ∃ D, digs k0 = D := ⟨_, rfl⟩
  rw [hD] at HR HL0
  have HD := Lib.hid hD
  obtain ⟨R, hR⟩ : ∃ R, mkT k0 = R := ⟨_, rfl⟩
  rw [hR] at HR ⊢
  clear hl0 hD hR
  go_enter Try.func58, Try.ntmps58
  go_wp2
  go_loopw [0, 3] (fun i o wr => ∃ (k : Nat) (out : List UInt8), k ≤ k0 ∧ i = .int .i64 k ∧ o = .string (txL out) ∧ Hid (digs k ++ out = D) ∧ Below w.heap.size w wr) (fun i _ _ => (intOf i).toNat)
  case atStart => exact ⟨k0, [], Nat.le_refl _, rfl, rfl, Lib.hid (by rw [List.append_nil]; exact HD.out), Below.refl _ _⟩
  case round =>
    obtain ⟨k, out, hk, rfl, rfl, HK, hB⟩ := hrel
    have HB := Lib.hid hB
    have hz := hB.size
    clear hB
    by_cases hlt : 0 < k
    · have hkp : (0 : Int) < (k : Int) := by omega
      have hlen := congrArg List.length HK.out
      rw [List.length_append] at hlen
      have hDl := HL0.out
      have htm : Int.tmod (k : Int) 10 = ((k % 10 : Nat) : Int) := by rw [Int.tmod_eq_emod_of_nonneg (by omega)]; omega
      have htd : Int.tdiv (k : Int) 10 = ((k / 10 : Nat) : Int) := by rw [Int.tdiv_eq_ediv_of_nonneg (by omega)]; omega
      obtain ⟨y, hy⟩ : ∃ y, UInt8.ofNat (48 + k % 10) = y := ⟨_, rfl⟩
      have hyn : y.toNat = 48 + k % 10 := by rw [← hy, UInt8.toNat_ofNat']; omega
      obtain ⟨r, hr⟩ : ∃ r, k % 10 = r := ⟨_, rfl⟩
      obtain ⟨q, hq⟩ : ∃ q, k / 10 = q := ⟨_, rfl⟩
      have HQ := Lib.hid (show q < k by omega)
      rw [hr] at htm hyn
      rw [hq] at htd
      have e0 : IntKind.i64.wrap (r : Int) = (r : Int) := by rw [IntKind.wrap_i64]; omega
      have e1 : (48 : Int) + (r : Int) = (y.toNat : Int) := by omega
      have e2 : IntKind.i64.wrap (y.toNat : Int) = (y.toNat : Int) := by rw [IntKind.wrap_i64]; omega
      have e3 : IntKind.u8.wrap (y.toNat : Int) = (y.toNat : Int) := IntWalk.u8_in _ (by omega)
      have e4 : IntKind.i64.wrap (q : Int) = (q : Int) := by rw [IntKind.wrap_i64]; omega
      have hadd := txAdd (txL [y]) (txL out) (by rw [txL_size, txL_size]; simp; omega)
      rw [txL_append] at hadd
      have hcv : (convert 74 9 (.slice (some ⟨wr.heap.size, 0, none⟩) 1 1)).run Try.prog (wr.alloc (.cells #[.int .u8 y.toNat] 5)) = .ok (.string (txL [y])) (wr.alloc (.cells #[.int .u8 y.toNat] 5)) := by
        have := run_convert_bytes_arg (P := Try.prog) (wr.alloc (.cells #[.int .u8 y.toNat] 5)) 74 5 Try.underlying74 Try.underlying5 wr.heap.size 0 1 1 [(y.toNat : Int)] rfl (fun i hi => by
          obtain rfl : i = 0 := by omega
          exact (cell_of_row _ _ _ _ _ (0, 0) (heap_alloc_new wr _)).trans rfl) 9 Try.underlying9
        rw [show strOfNums [(y.toNat : Int)] = txL [y] by unfold strOfNums txL; simp] at this
        exact this
      have HK2 := Lib.hid (show digs q ++ ([y] ++ out) = D by
        rw [← HK.out, digs_step hlt, hq, hy, List.append_assoc])
      clear hlen hyn hy hr hq
      go_wp2
      go_roundw
      case rel => exact ⟨q, [y] ++ out, by have := HQ.out; omega, rfl, rfl, HK2, Below.alloc HB.out hz _⟩
      case measure => have := HQ.out; simp [intOf]; omega
    · obtain rfl : k = 0 := by omega
      have hout : out = D := by have := HK.out; rwa [digs_zero, List.nil_append] at this
      subst hout
      have hadd := txAdd (⟨#[109]⟩ : ByteArray) (txL out) (by rw [txL_size]; have := HL0.out; show 1 + _ ≤ _; omega)
      rw [show (⟨#[109]⟩ : ByteArray) ++ txL out = txL (109 :: out) from txL_append [109] out] at hadd
      clear HD
      go_wp2
      go_ret
      exact ⟨by rw [HR.out]; rfl, HB.out⟩

def StrsIn (e : TypeId) (w : World) (B T : Nat) (v : Value) (xs : List ByteArray) : Prop := Strs w B e v xs ∧ ∀ k, v.ownBlock = some k → k < T

theorem StrsIn.keep {e : TypeId} {w w' : World} {B T : Nat} {v : Value} {xs : List ByteArray} (h : StrsIn e w B T v xs) (hs : Same B T w w') : StrsIn e w' B T v xs := by
  refine ⟨⟨h.1.1, ?_⟩, h.2⟩
  rcases h.1.2 with h1 | ⟨g, cap, cur, hv, hB, hg, hn, hm, hz, ht⟩
  · exact .inl h1
  · refine .inr ⟨g, cap, cur, hv, hB, ?_, hn, hm, hz, ht⟩
    rw [hs g hB (h.2 g (by rw [hv]; rfl)), hg]

theorem StrsIn.own {e : TypeId} {w : World} {B T : Nat} {v : Value} {xs : List ByteArray} (h : StrsIn e w B T v xs) : ∀ k, v.ownBlock = some k → B ≤ k ∧ k < T :=
  fun k hk => ⟨(h.1.own k hk).1, h.2 k hk⟩

theorem Strs.form {w : World} {B : Nat} {e : TypeId} {v : Value} {xs : List ByteArray} (h : Strs w B e v xs) :
    ∃ (a0 : Option Addr) (cap g : Nat), v = .slice a0 xs.length cap ∧ (0 < xs.length → a0 = some ⟨g, 0, none⟩) ∧ (a0 = none ∨ a0 = some ⟨g, 0, none⟩) ∧ xs.length ≤ maxLen ∧
      (∀ i, i < xs.length → w.cell? ⟨g, i, none⟩ = some (.string (xs.getD i ⟨#[]⟩))) ∧ (∀ i, 0 < xs.length → w.frozen? ⟨g, i, none⟩ = false) := by
  have h0 := h
  obtain ⟨hl, h1 | ⟨g, cap, cur, hv, hB, hg, hn2, hm, hs, ht⟩⟩ := h0
  · exact ⟨none, 0, 0, by rw [h1.2]; exact h1.1, fun h => by omega, .inl rfl, by unfold maxLen; omega, fun i hi => by omega, fun i h => by omega⟩
  · subst hv
    refine ⟨some ⟨g, 0, none⟩, cap, g, rfl, fun _ => rfl, .inr rfl, by omega, fun i hi => ?_, fun i _ => World.ownsRow.frozenAt h i⟩
    rw [World.ownsRow.cellAt h i (by omega)]
    simp [List.getElem?_map, List.getElem?_eq_getElem hi, List.getD]

theorem Strs.cellAt {w : World} {B g n cap : Nat} {e : TypeId} {xs : List ByteArray} (h : Strs w B e (.slice (some ⟨g, 0, none⟩) n cap) xs) (i : Nat) (hi : i < xs.length) :
    w.cell? ⟨g, i, none⟩ = some (.string (xs.getD i ⟨#[]⟩)) ∧ w.frozen? ⟨g, i, none⟩ = false := by
  obtain ⟨a0, c, g', e, ha, _, _, hc, hf⟩ := h.form
  have := ha (by omega)
  cases e
  cases this
  exact ⟨hc i hi, hf i (by omega)⟩

theorem Strs.stored {w : World} {B g n cap : Nat} {e : TypeId} {xs : List ByteArray} (h : Strs w B e (.slice (some ⟨g, 0, none⟩) n cap) xs) (j : Nat) (x : ByteArray) :
    Strs (w.setCell ⟨g, j, none⟩ (.string x)) B e (.slice (some ⟨g, 0, none⟩) n cap) (xs.set j x) ∧ w.grownBy (w.setCell ⟨g, j, none⟩ (.string x)) (some g) := by
  have hn : n = xs.length := by
    rcases h.2 with ⟨hv, _⟩ | ⟨_, _, _, hv, _⟩
    · cases hv
    · cases hv; rfl
  subst hn
  have := World.ownsRow.stored h j (.string x)
  unfold Strs
  rw [List.length_set, List.map_set]
  exact this

theorem grownBy_below {w w' : World} (row : Option Nat) (h : Below w.heap.size w w') : w.grownBy w' row := ⟨h.os, h.tape, h.output, h.size, fun k hk _ => h.block k hk⟩

/-- The marks m, m + 1 and so on. -/
def mksT (m n : Nat) : List ByteArray := (List.range n).map fun i => mkT (m + i)

theorem mksT_length (m n : Nat) : (mksT m n).length = n := by simp [mksT]

theorem mksT_get (m n i : Nat) (h : i < n) : (mksT m n).getD i ⟨#[]⟩ = mkT (m + i) := by simp [mksT, List.getD, h]

def mkdTo (m : Nat) (xs : List ByteArray) (k : Nat) : List ByteArray := mksT m k ++ xs.drop k

theorem mkdTo_length (m : Nat) (xs : List ByteArray) (k : Nat) (h : k ≤ xs.length) : (mkdTo m xs k).length = xs.length := by
  unfold mkdTo
  rw [List.length_append, mksT_length, List.length_drop]
  omega

theorem mkdTo_set (m : Nat) (xs : List ByteArray) (k : Nat) (h : k < xs.length) : (mkdTo m xs k).set k (mkT (m + k)) = mkdTo m xs (k + 1) := by
  unfold mkdTo
  rw [List.set_append_right _ _ (by rw [mksT_length]; exact Nat.le_refl _), mksT_length, Nat.sub_self, List.drop_eq_getElem_cons h, List.set_cons_zero]
  simp [mksT, List.range_succ]

theorem mkdTo_all (m : Nat) (xs : List ByteArray) : mkdTo m xs xs.length = mksT m xs.length := by simp [mkdTo]

set_option maxHeartbeats 400000 in
theorem eqStringS_in (v1 v2 : Value) (xs : List ByteArray) (B1 T1 B2 T2 : Nat) (e : TypeId) (w : World) (h1 : StrsIn e w B1 T1 v1 xs) (h2 : StrsIn e w B2 T2 v2 xs) :
    Calls Try.prog 22 #[v1, v2] w fun e w' => e = .returned (.bool true) ∧ Below w.heap.size w w' := by
  obtain ⟨a1, c1, g1, rfl, ha1, _, hm, hc1, _⟩ := h1.1.form
  obtain ⟨a2, c2, g2, rfl, ha2, _, _, hc2, _⟩ := h2.1.form
  clear h1 h2
  unfold maxLen at hm
  have HC1 := Lib.hid hc1
  have HC2 := Lib.hid hc2
  have HA1 := Lib.hid ha1
  have HA2 := Lib.hid ha2
  clear hc1 hc2 ha1 ha2
  go_enter Try.func22, Try.ntmps22
  go_wp2
  go_loopw [5] (fun i wr => ∃ k q : Nat, k ≤ xs.length ∧ i = .int .i64 k ∧ wr = w.drewN q) (fun i _ => xs.length - (intOf i).toNat)
  case atStart => exact ⟨0, 0, by omega, rfl, rfl⟩
  case round =>
    obtain ⟨k, q, hk, rfl, rfl⟩ := hrel
    by_cases hlt : k < xs.length
    · obtain rfl := HA1.out (by omega)
      obtain rfl := HA2.out (by omega)
      have cc1 := HC1.out k hlt
      have cc2 := HC2.out k hlt
      obtain ⟨X, hX⟩ : ∃ X, xs.getD k ⟨#[]⟩ = X := ⟨_, rfl⟩
      rw [hX] at cc1 cc2
      have hi1 : 0 ≤ (k : Int) := by omega
      clear hX
      go_wp2
      go_quiet (fail)
      go_wp2
      go_roundw
      case rel => exact ⟨k + 1, q + nq, by omega, by go_num, by simp⟩
      case measure => simp [intOf]; omega
    · go_wp2
      go_ret
      exact ⟨rfl, bdn (Below.refl _ _) q⟩

set_option maxHeartbeats 1000000 in
theorem markStringS_in (v : Value) (xs : List ByteArray) (m : Nat) (B T : Nat) (e : TypeId) (w : World) (h : StrsIn e w B T v xs) (hm1 : 1 ≤ m) (hm2 : m ≤ 1000000) (hn : xs.length ≤ 1000000) :
    Calls Try.prog 23 #[v, .int .i64 m] w fun e' w' => e' = .returned (.int .i64 ((m : Int) + xs.length)) ∧ StrsIn e w' B T v (mksT m xs.length) ∧ Only B T w w' := by
  have hown := h.own
  have HT := Lib.hid h.2
  obtain ⟨a1, c1, g1, rfl, ha1, _, _, _, _⟩ := h.1.form
  have HOWN := Lib.hid hown
  have HA := Lib.hid ha1
  have HI := Lib.hid h.1
  have HL := Lib.hid (fun k (h : k ≤ xs.length) => mkdTo_length m xs k h)
  have HS := Lib.hid (fun k (h : k < xs.length) => mkdTo_set m xs k h)
  have HAL := Lib.hid (mkdTo_all m xs)
  have H0 : mkdTo m xs 0 = xs := by simp [mkdTo, mksT]
  have HMT := Lib.hid (fun k W (hk : k < xs.length) => show Calls Try.prog 58 #[.int .i64 ((m : Int) + (k : Int))] W fun e w' => e = .returned (.string (mkT (m + k))) ∧ Below W.heap.size W w' by
    have := markText_any (m + k) W (by omega) (by omega)
    rwa [Int.natCast_add] at this)
  clear ha1 h hown
  go_enter Try.func23, Try.ntmps23
  go_wp2
  go_loopw [1, 5] (fun u i wr => ∃ k : Nat, k ≤ xs.length ∧ i = .int .i64 k ∧ u = .int .i64 ((m : Int) + (k : Int)) ∧ Strs wr B e (.slice a1 xs.length c1) (mkdTo m xs k) ∧ w.grownBy wr (Value.slice a1 xs.length c1).ownBlock) (fun _ i _ => xs.length - (intOf i).toNat)
  case atStart => exact ⟨0, by omega, rfl, by simp, by rw [H0]; exact HI.out, grownBy_refl _ _⟩
  case round =>
    obtain ⟨k, hk, rfl, rfl, hI, hg⟩ := hrel
    by_cases hlt : k < xs.length
    · obtain rfl := HA.out (by omega)
      have HG := Lib.hid hg
      have HIk := Lib.hid hI
      have k0 : 0 ≤ (k : Int) := by omega
      have k1 : (k : Int) < (xs.length : Int) := by omega
      have e1 : IntKind.i64.wrap ((m : Int) + (k : Int) + 1) = (m : Int) + ((k + 1 : Nat) : Int) := by rw [IntKind.wrap_i64]; omega
      clear hI hg
      go_wp2_with (first | (go_at_call 58; (with_reducible refine (HMT.out k _ hlt).mono ?_); rintro en w3 ⟨rfl, hb3⟩; (have hI3 := HIk.out.later hb3); (have HG3 := Lib.hid (grownBy_trans HG.out (grownBy_below _ hb3))); (have hc3 := (hI3.cellAt k (by rw [HL.out k hk]; exact hlt)).1); (have hf3 := (hI3.cellAt k (by rw [HL.out k hk]; exact hlt)).2); (have HI3 := Lib.hid hI3); clear hI3))
      go_roundw
      case rel =>
        have hst := HI3.out.stored k (mkT (m + k))
        rw [HS.out k hlt] at hst
        exact ⟨k + 1, by omega, by go_num, rfl, hst.1, grownBy_trans HG3.out hst.2⟩
      case measure => simp [intOf]; omega
    · obtain rfl : k = xs.length := by omega
      have HG := Lib.hid hg
      have HIk := Lib.hid hI
      clear hI hg
      go_wp2
      go_ret
      refine ⟨by first | rfl | simp, ⟨by rw [← HAL.out]; exact HIk.out, HT.out⟩, Only.of_grown HG.out HOWN.out⟩

set_option maxHeartbeats 1000000 in
theorem heldStringS_in (v : Value) (m n : Nat) (B T : Nat) (e : TypeId) (w : World) (h : StrsIn e w B T v (mksT m n)) (hm1 : 1 ≤ m) (hm2 : m ≤ 1000000) (hn : n ≤ 1000000) :
    Calls Try.prog 24 #[v, .int .i64 m] w fun e w' => e = .returned (.int .i64 ((m : Int) + n)) ∧ Below w.heap.size w w' := by
  obtain ⟨a1, c1, g1, rfl, ha1, _, _, hc1, _⟩ := h.1.form
  rw [mksT_length] at ha1 hc1 ⊢
  have HC := Lib.hid (fun i (hi : i < n) => show w.cell? ⟨g1, i, none⟩ = some (.string (mkT (m + i))) by rw [hc1 i hi, mksT_get m n i hi])
  have HA := Lib.hid ha1
  have HMT := Lib.hid (fun k W (hk : k < n) => show Calls Try.prog 58 #[.int .i64 ((m : Int) + (k : Int))] W fun e w' => e = .returned (.string (mkT (m + k))) ∧ Below W.heap.size W w' by
    have := markText_any (m + k) W (by omega) (by omega)
    rwa [Int.natCast_add] at this)
  clear hc1 ha1 h
  go_enter Try.func24, Try.ntmps24
  go_wp2
  go_loopw [1, 5] (fun u i wr => ∃ k : Nat, k ≤ n ∧ i = .int .i64 k ∧ u = .int .i64 ((m : Int) + (k : Int)) ∧ Below w.heap.size w wr) (fun _ i _ => n - (intOf i).toNat)
  case atStart => exact ⟨0, by omega, rfl, by simp, Below.refl _ _⟩
  case round =>
    obtain ⟨k, hk, rfl, rfl, hB⟩ := hrel
    have hz := hB.size
    by_cases hlt : k < n
    · obtain rfl := HA.out (by omega)
      have hc := cellB hB (HC.out k hlt)
      have k0 : 0 ≤ (k : Int) := by omega
      have k1 : (k : Int) < (n : Int) := by omega
      have e1 : IntKind.i64.wrap ((m : Int) + (k : Int) + 1) = (m : Int) + ((k + 1 : Nat) : Int) := by rw [IntKind.wrap_i64]; omega
      have HMk := Lib.hid (fun W => HMT.out k W hlt)
      obtain ⟨X, hX⟩ : ∃ X, mkT (m + k) = X := ⟨_, rfl⟩
      rw [hX] at hc HMk
      have keepS : ∀ W W' : World, (W.cell? ⟨g1, k, none⟩ = some (.string X) ∧ Below w.heap.size w W) → Below W.heap.size W W' → (W'.cell? ⟨g1, k, none⟩ = some (.string X) ∧ Below w.heap.size w W') := fun W W' h hb => ⟨cellB hb h.1, h.2.trans (hb.mono h.2.size)⟩
      have hS1 : wr.drew.cell? ⟨g1, k, none⟩ = some (.string X) ∧ Below w.heap.size w wr.drew := ⟨hc, bdn hB 1⟩
      clear hX
      go_wp2
      go_region_held3 (fun w' => w'.cell? ⟨g1, k, none⟩ = some (.string X) ∧ Below w.heap.size w w') (first | with_reducible exact hS1.1 | with_reducible exact hS1.2 | with_reducible exact hS4.1 | with_reducible exact hS4.2 | assumption)
        (first | (go_at_call 58; (refine (HMk.out _).mono ?_); rintro en w4 ⟨rfl, hb4⟩; (have hS4 := keepS _ _ (by first | exact hHeld | exact hS1) hb4)))
      all_goals
        go_wp2
        go_roundw
        case rel => exact ⟨k + 1, by omega, by go_num, rfl, by first | exact hS4.2 | assumption⟩
        case measure => simp [intOf]; omega
    · obtain rfl : k = n := by omega
      have HB := Lib.hid hB
      clear hB
      go_wp2
      go_ret
      exact ⟨rfl, HB.out⟩

end Go.Proofs.Ytpcebcgmbngabab
