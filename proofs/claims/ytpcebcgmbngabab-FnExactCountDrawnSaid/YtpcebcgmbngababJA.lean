/- Loops: the letters interlaced with one: both sides of InterlacedWith and IsEvenLoop. -/
import Derived.Test.YtpcebcgmbngababJ9
namespace Go.Proofs.Ytpcebcgmbngabab
open Go.RowKit
set_option linter.unusedVariables false

/-- The letters below n of which c holds. -/
def oneT (c : Nat → Bool) (n : Nat) : List UInt8 := ((List.range n).filter c).map lt8

theorem oneT_sel (c : Nat → Bool) (n : Nat) : letT (selT c n) = oneT c n := by
  unfold letT selT oneT
  rw [List.map_map]
  exact List.map_congr_left fun k _ => by simp

theorem oneT_length (c : Nat → Bool) (n : Nat) : (oneT c n).length ≤ n := by
  have := List.length_filter_le c (List.range n)
  rw [List.length_range] at this
  simpa [oneT] using this

theorem oneT_yes {c : Nat → Bool} {n : Nat} (h : c n = true) : oneT c (n + 1) = oneT c n ++ [lt8 n] := by
  simp [oneT, List.range_succ, List.filter_append, h]

theorem oneT_no {c : Nat → Bool} {n : Nat} (h : c n = false) : oneT c (n + 1) = oneT c n := by
  simp [oneT, List.range_succ, List.filter_append, h]

theorem selT_bd (c : Nat → Bool) (n : Nat) (hn : n ≤ 16) : ∀ i, i < (selT c n).length → 0 ≤ (selT c n).getD i 0 ∧ (selT c n).getD i 0 < 16 := by
  intro i hi
  rw [List.getD, List.getElem?_eq_getElem hi]
  have hm := List.getElem_mem hi
  unfold selT at hm
  rw [List.mem_map] at hm
  obtain ⟨k, hk, e⟩ := hm
  have := List.mem_range.1 ((List.mem_filter.1 hk).1)
  simp only [Option.getD_some]
  rw [show (selT c n)[i] = (k : Int) from e.symm]
  omega

/-- The numbers of a step over the letters: 97 + k as a sign. -/
theorem sign_of (k : Nat) (h : k < 100) : ∃ d : Nat, d = 97 + k ∧ 97 + (k : Int) = (d : Int) ∧ IntKind.i64.wrap (d : Int) = (d : Int) ∧ IntKind.u8.wrap (d : Int) = (d : Int) :=
  ⟨97 + k, rfl, by simp, by rw [IntKind.wrap_i64]; omega, IntWalk.u8_in _ (by omega)⟩

set_option maxHeartbeats 2000000 in
set_option maxRecDepth 100000 in
theorem loWith_any (t : ByteArray) (ps : List (Nat × Nat)) (x dx : Nat) (w : World) (h : LoopP t.data.toList ps) (hx : x < ps.length) (hdx : dx = 97 + x) :
    Calls Try.prog 107 #[.string t, .int .u8 dx] w fun e w' => e = .returned (.string (txL (oneT (lacedP ps x) ps.length))) ∧ w = w' := by
  have hs := h.size
  have hfew := h.few
  have HLC := Lib.hid (fun k dk (hk : k < ps.length) (hdk : dk = 97 + k) W => loLaced_any t ps x k dx dk W h hx hk hdx hdk)
  obtain ⟨n, hn⟩ : ∃ n, ps.length = n := ⟨_, rfl⟩
  obtain ⟨m, hm⟩ : ∃ m, t.size = m := ⟨_, rfl⟩
  rw [hn] at hs hfew ⊢
  rw [hm] at hs
  have hd : Int.tdiv (m : Int) 2 = (n : Int) := by rw [Int.tdiv_eq_ediv_of_nonneg (by omega)]; omega
  have hwn : IntKind.i64.wrap (n : Int) = (n : Int) := by rw [IntKind.wrap_i64]; omega
  have HN := Lib.hid hn
  clear hs h hdx hx hn
  obtain ⟨C, hC⟩ : ∃ C, lacedP ps x = C := ⟨_, rfl⟩
  rw [hC] at HLC ⊢
  clear hC
  go_enter Try.func107, Try.ntmps107
  go_wp2
  go_loopw [5, 6] (fun o i wr => ∃ k : Nat, k ≤ n ∧ i = .int .i64 k ∧ o = .string (txL (oneT C k)) ∧ w = wr) (fun _ i _ => n - (intOf i).toNat)
  case atStart => exact ⟨0, by omega, rfl, rfl, rfl⟩
  case round =>
    obtain ⟨k, hk, rfl, rfl, rfl⟩ := hrel
    by_cases hlt : k < n
    · obtain ⟨d, hdk, h97, hw1, hw2⟩ := sign_of k (by omega)
      have HD := Lib.hid hdk
      have hab := abc_one ⟨k, by omega⟩
      simp only at hab
      have hol := oneT_length C k
      have hsz := txL_size (oneT C k)
      obtain ⟨O, hO⟩ : ∃ O, txL (oneT C k) = O := ⟨_, rfl⟩
      rw [hO] at hsz ⊢
      have hadd := txAdd O ((⟨#[97, 98, 99, 100, 101, 102, 103, 104, 105, 106, 107, 108, 109, 110, 111, 112]⟩ : ByteArray).extract k (k + 1)) (by rw [hab, txL_size]; simp; omega)
      have HOT := Lib.hid (show O ++ (⟨#[97, 98, 99, 100, 101, 102, 103, 104, 105, 106, 107, 108, 109, 110, 111, 112]⟩ : ByteArray).extract k (k + 1) = txL (oneT C k ++ [lt8 k]) by rw [hab, ← hO, txL_append])
      have HO := Lib.hid hO
      have hwk : IntKind.i64.wrap ((k : Int) + 1) = (k : Int) + 1 := by rw [IntKind.wrap_i64]; omega
      clear hab hdk hO hsz hol
      cases hc : C k with
      | true =>
        have HC := Lib.hid hc
        rw [HOT.out, ← oneT_yes hc] at hadd
        clear hc
        go_wp2_with (first | (go_at_call 83; (with_reducible refine (HLC.out k d (by rw [HN.out]; exact hlt) HD.out _).mono ?_); rintro e w1 ⟨rfl, rfl⟩; rw [HC.out]))
        go_roundw
        case rel => exact ⟨k + 1, by omega, by go_num, by first | rfl | (rw [oneT_yes HC.out, ← HOT.out]), by trivial⟩
        case measure => simp [intOf]; omega
      | false =>
        have HC := Lib.hid hc
        clear hc hadd
        go_wp2_with (first | (go_at_call 83; (with_reducible refine (HLC.out k d (by rw [HN.out]; exact hlt) HD.out _).mono ?_); rintro e w1 ⟨rfl, rfl⟩; rw [HC.out]))
        go_roundw
        case rel => exact ⟨k + 1, by omega, by go_num, by rw [oneT_no HC.out, HO.out], by trivial⟩
        case measure => simp [intOf]; omega
    · obtain rfl : k = n := by omega
      go_wp2
      go_ret
      exact ⟨rfl, rfl⟩

end Go.Proofs.Ytpcebcgmbngabab
