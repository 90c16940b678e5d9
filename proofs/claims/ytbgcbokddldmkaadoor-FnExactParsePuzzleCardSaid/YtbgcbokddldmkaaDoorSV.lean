/- Stars that texts tell: the model's reader, by the text. -/
import Derived.Test.YtbgcbokddldmkaaDoorSQ
namespace Go.Proofs.YtbgcbokddldmkaaDoor
open Go.RowKit
set_option linter.unusedVariables false

theorem ends_list (t : ByteArray) (m : Nat) (hm : t.size = m + 1) (h1 : 1 ≤ m) (h0 : 0 < t.size) (hm1 : m < t.size) : t.data.toList = t[0]'h0 :: ((t.extract 1 m).data.toList ++ [t[m]'hm1]) := by
  have hl : t.data.toList.length = m + 1 := by rw [← hm]; exact Array.length_toList
  have g0 := byte_get t 0 h0
  have gm := byte_get t m hm1
  rw [extract_list, ← g0, ← gm]
  generalize t.data.toList = l at *
  cases l with
  | nil => simp at hl
  | cons x r =>
    have hr : r.length = m := by simpa using hl
    obtain ⟨k, rfl⟩ : ∃ k, m = k + 1 := ⟨m - 1, by omega⟩
    simp only [List.getD_cons_zero, List.drop_succ_cons, List.drop_zero, List.getD_cons_succ, Nat.add_sub_cancel]
    congr 1
    have h2 := List.take_append_drop k r
    rw [List.drop_eq_getElem_cons (by omega), List.drop_eq_nil_of_le (by omega)] at h2
    rw [List.getD, List.getElem?_eq_getElem (by omega)]
    exact h2.symm

theorem splitH (t : ByteArray) (m : Nat) (h7 : t.size ≤ 7) : ∀ W, Calls Tryd.prog 83 #[.string (t.extract 1 m), .int .u8 47] W fun e w' => ∃ v, e = .returned v ∧ Strs w' W.heap.size 9 v (partB2 (t.extract 1 m) 47) ∧ Below W.heap.size W w' := fun W =>
  l1Split_any (t.extract 1 m) 47 W (by rw [ByteArray.size_extract]; omega) (by omega)

theorem size_list (t : ByteArray) : t.size = t.data.toList.length := Array.length_toList.symm

theorem srParse_yes (t : ByteArray) (p s : Nat) (w : World) (hg : GoodS p s) (h : t.data.toList = starL p s) :
    Calls Tryd.prog 78 #[.string t] w fun e w' => e = .returned (.tuple #[.agg #[.int .i64 p, .int .i64 s], .bool true]) ∧ Below w.heap.size w w' := by
  have hp : p < 100 := by have := hg.2.1; omega
  have hs : s < 100 := by have := hg.2.2.2; omega
  obtain ⟨p1, p2, p3⟩ := dec2_no47 ⟨p, hp⟩
  obtain ⟨s1, s2, s3⟩ := dec2_no47 ⟨s, hs⟩
  have hsz : t.size = (dec2 p).length + (dec2 s).length + 3 := by rw [size_list, h]; simp [starL]; omega
  simp only at p1 p2 p3 s1 s2 s3
  obtain ⟨m, hm⟩ : ∃ m, t.size = m + 1 := ⟨t.size - 1, by omega⟩
  have h0 : 0 < t.size := by omega
  have hm1 : m < t.size := by omega
  have he := ends_list t m hm (by omega) h0 hm1
  rw [h] at he
  have e2 : starL p s = 123 :: ((dec2 p ++ 47 :: dec2 s) ++ [125]) := by simp [starL]
  rw [e2] at he
  injection he with he1 he2
  obtain ⟨he3, he4⟩ := List.append_inj' he2 rfl
  have hin : partB2 (t.extract 1 m) 47 = [⟨(dec2 p).toArray⟩, ⟨(dec2 s).toArray⟩] := part_at (c := 47) he3.symm p1 s1
  have HS := Lib.hid (splitH t m (by omega))
  rw [hin] at HS
  have r1 := fun W => l1Read_any ⟨(dec2 p).toArray⟩ W (by rw [list_size]; omega)
  have r2 := fun W => l1Read_any ⟨(dec2 s).toArray⟩ W (by rw [list_size]; omega)
  rw [data_arr, readT_dec2 p hp] at r1
  rw [data_arr, readT_dec2 s hs] at r2
  refine srParse_star t w (by omega) h0 (by rw [← he1]; rfl) m (by omega) hm1 (by injection he4 with he5 _; rw [← he5]; rfl) _ _ HS p s (Lib.hid r1) (Lib.hid r2) ?_
  obtain ⟨g1, g2, g3, g4⟩ := hg
  omega

theorem part_one {t : ByteArray} {c : Nat} (m : Nat) (h : (partB2 t c).length = 2) : ∃ a b, partB2 t c = [a, b] := by
  match hp : partB2 t c, h with
  | [a, b], _ => exact ⟨a, b, rfl⟩

theorem srParse_no (t : ByteArray) (w : World) (h : ∀ p s, GoodS p s → t.data.toList ≠ starL p s) :
    Calls Tryd.prog 78 #[.string t] w fun e w' => e = .returned (.tuple #[.agg #[.int .i64 0, .int .i64 0], .bool false]) ∧ Below w.heap.size w w' := by
  by_cases hl : 5 ≤ (t.size : Int) ∧ (t.size : Int) ≤ 7
  · have h0 : 0 < t.size := by omega
    obtain ⟨m, hm⟩ : ∃ m, t.size = m + 1 := ⟨t.size - 1, by omega⟩
    have hm1 : m < t.size := by omega
    by_cases hz : (t[0]'h0).toNat = 123
    · by_cases hy : (t[m]'hm1).toNat = 125
      · have HS := Lib.hid (splitH t m (by omega))
        have hpos := (part_pos (t.extract 1 m) 47).1
        by_cases hx : (partB2 (t.extract 1 m) 47).length = 2
        · obtain ⟨a, b, hab⟩ := part_one m hx
          have hin := part_two (c := 47) hab
          rw [hab] at HS
          have hsz : (t.extract 1 m).size = a.size + b.size + 1 := by
            rw [size_list, hin, size_list a, size_list b]; simp; omega
          rw [ByteArray.size_extract] at hsz
          have r1 := fun W => l1Read_any a W (by omega)
          have r2 := fun W => l1Read_any b W (by omega)
          have he := ends_list t m hm (by omega) h0 hm1
          refine srParse_bad t w hl h0 hz m (by omega) hm1 hy a b HS _ _ (Lib.hid r1) (Lib.hid r2) fun hg => ?_
          obtain ⟨g1, g2, g3, g4⟩ := hg
          obtain ⟨p, hp⟩ := Int.eq_ofNat_of_zero_le (show 0 ≤ readT a.data.toList by omega)
          obtain ⟨s, hs⟩ := Int.eq_ofNat_of_zero_le (show 0 ≤ readT b.data.toList by omega)
          refine h p s ⟨by omega, by omega, by omega, by omega⟩ ?_
          rw [he, hin, readT_some hp (by omega), readT_some hs (by omega), UInt8.toNat_inj.1 (show (t[0]'h0).toNat = (123 : UInt8).toNat from hz), UInt8.toNat_inj.1 (show (t[m]'hm1).toNat = (125 : UInt8).toNat from hy)]
          simp [starL]
        · exact srParse_parts t w hl h0 hz m (by omega) hm1 hy _ HS (by omega) hpos
      · exact srParse_last t w hl h0 hz m (by omega) hm1 _ rfl (by omega)
    · exact srParse_first t w hl h0 _ rfl (by omega)
  · exact srParse_len t w hl

set_option maxHeartbeats 1000000 in
theorem sParseStar_yes (t : ByteArray) (p s : Nat) (w : World) (hg : GoodS p s) (h : t.data.toList = starL p s) :
    Calls Tryd.prog 37 #[.string t] w fun e w' => e = .returned (.tuple #[.agg #[.int .i64 p, .int .i64 s], .bool true]) ∧ Below w.heap.size w w' := by
  have H := Lib.hid (fun W => srParse_yes t p s W hg h)
  clear h hg
  go_enter Tryd.func37, Tryd.ntmps37
  go_wp2_with (go_at_call 78; (refine (H.out _).mono ?_); rintro e w1 ⟨rfl, hb⟩; (have c0 : w1.cell? ⟨w.heap.size, 0, none⟩ = some (.int .i64 0) := cellB hb (by go_simp)); (have c1 : w1.cell? ⟨w.heap.size, 1, none⟩ = some (.int .i64 0) := cellB hb (by go_simp)); (have f0 : w1.frozen? ⟨w.heap.size, 0, none⟩ = false := (hb.frozen (p := ⟨w.heap.size, 0, none⟩) (by simp)).trans (by go_simp)); (have f1 : w1.frozen? ⟨w.heap.size, 1, none⟩ = false := (hb.frozen (p := ⟨w.heap.size, 1, none⟩) (by simp)).trans (by go_simp)); (have hz1 : w.heap.size < w1.heap.size := by (have := hb.size; simp at this; omega)); (have hB : Below w.heap.size w w1 := Below.trans (by go_grown) (hb.mono (by simp))); clear hb)
  exact bodyPost_ret (v := .tuple #[.agg #[.int .i64 p, .int .i64 s], .bool true]) (by simp [results, Tryd.results37, go_sem, *]) rfl ⟨rfl, by go_grown⟩

set_option maxHeartbeats 1000000 in
theorem sParseStar_no (t : ByteArray) (w : World) (h : ∀ p s, GoodS p s → t.data.toList ≠ starL p s) :
    Calls Tryd.prog 37 #[.string t] w fun e w' => e = .returned (.tuple #[.agg #[.int .i64 0, .int .i64 0], .bool false]) ∧ Below w.heap.size w w' := by
  have H := Lib.hid (fun W => srParse_no t W h)
  clear h
  go_enter Tryd.func37, Tryd.ntmps37
  go_wp2_with (go_at_call 78; (refine (H.out _).mono ?_); rintro e w1 ⟨rfl, hb⟩; (have c0 : w1.cell? ⟨w.heap.size, 0, none⟩ = some (.int .i64 0) := cellB hb (by go_simp)); (have c1 : w1.cell? ⟨w.heap.size, 1, none⟩ = some (.int .i64 0) := cellB hb (by go_simp)); (have f0 : w1.frozen? ⟨w.heap.size, 0, none⟩ = false := (hb.frozen (p := ⟨w.heap.size, 0, none⟩) (by simp)).trans (by go_simp)); (have f1 : w1.frozen? ⟨w.heap.size, 1, none⟩ = false := (hb.frozen (p := ⟨w.heap.size, 1, none⟩) (by simp)).trans (by go_simp)); (have hz1 : w.heap.size < w1.heap.size := by (have := hb.size; simp at this; omega)); (have hB : Below w.heap.size w w1 := Below.trans (by go_grown) (hb.mono (by simp))); clear hb)
  exact bodyPost_ret (v := .tuple #[.agg #[.int .i64 0, .int .i64 0], .bool false]) (by simp [results, Tryd.results37, go_sem, *]) rfl ⟨rfl, by go_grown⟩

end Go.Proofs.YtbgcbokddldmkaaDoor
