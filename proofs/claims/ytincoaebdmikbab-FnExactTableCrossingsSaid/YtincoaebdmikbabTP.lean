/- The chords of a table: the mathematics; the model; the program. -/
import Derived.Test.YtincoaebdmikbabT6
import Derived.Test.YtincoaebdmikbabZ5
import Derived.Test.YtincoaebdmikbabP4
import Derived.Test.YtincoaebdmikbabV9
namespace Go.Proofs.Ytincoaebdmikbab
open Go.RowKit Go.Maps
set_option linter.unusedVariables false

/-- The chord along the line of q. -/
def lineF (p f q : Nat) : Int × Int := (min (q : Int) ((q * f % p : Nat) : Int), max (q : Int) ((q * f % p : Nat) : Int))

/-- The chords along the lines of the points less than k. -/
def linesF (p f k : Nat) : List (Int × Int) := ((List.range k).filter fun q => q * f % p != q).map (lineF p f)

theorem linesF_yes (p f k : Nat) (h : k * f % p ≠ k) : linesF p f (k + 1) = linesF p f k ++ [lineF p f k] := by
  simp [linesF, List.range_succ, List.filter_append, h]

theorem linesF_no (p f k : Nat) (h : k * f % p = k) : linesF p f (k + 1) = linesF p f k := by
  simp [linesF, List.range_succ, List.filter_append, h]

theorem linesF_length (p f k : Nat) : (linesF p f k).length ≤ k := by
  have := List.length_filter_le (fun q => q * f % p != q) (List.range k)
  rw [List.length_range] at this
  simpa [linesF] using this

/-- The chords of a table in order. -/
def chordsF (p f : Nat) : List (Int × Int) := putAll [] (linesF p f p)

theorem putF_length (p f k : Nat) : (putAll [] (linesF p f k)).length ≤ k := by
  have h := putAll_length [] (linesF p f k)
  have := linesF_length p f k
  simp only [List.length_nil, Nat.zero_add] at h
  omega

theorem chordsF_length (p f : Nat) : (chordsF p f).length ≤ p := putF_length p f p

theorem chordsF_sorted (p f : Nat) : SortedC (chordsF p f) := putAll_sorted _ _ sortedC_nil

theorem chordsF_mem (p f : Nat) (hp : 0 < p) (c : Int × Int) (h : c ∈ chordsF p f) : 0 ≤ c.1 ∧ c.1 < c.2 ∧ c.2 < p := by
  unfold chordsF at h
  rw [mem_putAll] at h
  rcases h with h | h
  · cases h
  · unfold linesF at h
    obtain ⟨q, hq, rfl⟩ := List.mem_map.1 h
    obtain ⟨h1, h2⟩ := List.mem_filter.1 hq
    have h3 := List.mem_range.1 h1
    have h4 := Nat.mod_lt (q * f) hp
    rw [bne_iff_ne] at h2
    unfold lineF
    simp only
    omega

theorem chordsF_unique (p f : Nat) (ys : List (Int × Int)) (hs : SortedC ys) (hm : ∀ x, x ∈ ys ↔ x ∈ linesF p f p) : ys = chordsF p f :=
  SortedC.ext hs (chordsF_sorted p f) fun x => by
    unfold chordsF
    rw [mem_putAll, hm]
    simp

theorem givePairsF {w w' : World} {v : Value} {xs : List (Int × Int)} (b : Bool) {B : Nat} (hI : PairsIn 56 w' B w'.heap.size v xs) (hB : w.heap.size ≤ B) (hb : Below w.heap.size w w') : Gives (PairsIn 56) w xs b (.returned (.tuple #[v, .bool b])) w' :=
  ⟨v, rfl, hI.wider hB (Nat.le_refl _), hb⟩

/-- A call returns the chords xs in a slice of its own. -/
def GivesC (w : World) (xs : List (Int × Int)) (e : Ending) (w' : World) : Prop := ∃ v, e = .returned v ∧ PairsIn 56 w' w.heap.size w'.heap.size v xs ∧ Below w.heap.size w w'

set_option maxHeartbeats 1000000 in
theorem taChords_any (p f : Nat) (w : World) (h : 3 ≤ p ∧ p ≤ 60) (hf : f < p) :
    Calls Try.prog 40 #[.int .i64 p, .int .i64 f] w (GivesC w (chordsF p f)) := by
  have g : (3 ≤ (p : Int) ∧ (p : Int) ≤ 60) ∧ (0 ≤ (f : Int) ∧ (f : Int) < p) := by omega
  go_enter Try.func40, Try.ntmps40
  go_wp2_with (first
    | (go_at_call 57; (with_reducible refine (taRow_any _ _ _ h hf).mono ?_); rintro e w1 ⟨v, rfl, hIr, hb⟩; obtain ⟨a1, c1, g1, rfl, ha1, _, hm, hg, hc1, _⟩ := hIr.view; obtain rfl := ha1 (by rw [rowT_length]; omega); rw [rowT_length] at *; have HC := Lib.hid hc1; clear hc1 hIr ha1))
  go_loopw [5, 12] (fun u i wr => ∃ k : Nat, k ≤ p ∧ i = .int .i64 k ∧ PairsIn 56 wr w1.heap.size wr.heap.size u (putAll [] (linesF p f k)) ∧ Below w1.heap.size w1 wr) (fun _ i _ => p - (intOf i).toNat)
  case atStart => exact ⟨0, by omega, rfl, PairsIn.nil _ _ _ _, Below.refl _ _⟩
  case round =>
    obtain ⟨k, hk, rfl, hI, hB⟩ := hrel
    have HI := Lib.hid hI
    have hz := hB.size
    clear hI
    by_cases hlt : k < p
    · have hlen := putF_length p f k
      obtain ⟨x, hx⟩ : ∃ x, k * f % p = x := ⟨_, rfl⟩
      have cc : wr.cell? ⟨g1, k, none⟩ = some (.int .i64 (x : Int)) := (hB.cell (p := ⟨g1, k, none⟩) (World.block_lt_of_cell? w1 _ (HC.out k hlt))).trans (by rw [HC.out k hlt, rowT_at p f k hlt, hx])
      by_cases hne : x = k
      · have e1 : ((k : Int) != (x : Int)) = false := by rw [hne]; simp
        have e2 : ((k : Int) == (x : Int)) = true := by rw [hne]; simp
        have HN := Lib.hid (linesF_no p f k (by rw [hx, hne]))
        clear hx hne
        go_wp2
        go_roundw
        case rel => exact ⟨k + 1, by omega, by go_num, by rw [HN.out]; exact HI.out, hB⟩
        case measure => simp [intOf]; omega
      · have e1 : ((k : Int) != (x : Int)) = true := bne_iff_ne.2 (by omega)
        have e2 : ((k : Int) == (x : Int)) = false := beq_eq_false_iff_ne.2 (by omega)
        have HN := Lib.hid (show putAll [] (linesF p f (k + 1)) = putC (putAll [] (linesF p f k)) (min (k : Int) (x : Int), max (k : Int) (x : Int)) by rw [linesF_yes p f k (by rw [hx]; exact hne), putAll_snoc, lineF, hx])
        clear hx hne
        go_wp2_with (first
          | (go_at_call 59; (with_reducible refine (srChord_any _ _ _).mono ?_); rintro e w2 ⟨rfl, hb2⟩; (have B2 := hB.trans (hb2.mono (by omega))); have n2 := hb2.size)
          | (go_at_call 58; refine (srPut_any _ _ _ _ w1.heap.size _ _ (HI.out.keep (belowSame hb2 (Nat.le_refl _))) n2 (by omega) (by omega)).mono ?_; rintro e w3 ⟨v3, rfl, hp3, hb3⟩; (have B3 := B2.trans (hb3.mono (by omega))); have HP := Lib.hid hp3; clear hp3))
        go_roundw
        case rel => exact ⟨k + 1, by omega, by go_num, by rw [HN.out]; exact HP.out, B3⟩
        case measure => simp [intOf]; omega
    · obtain rfl : k = p := by omega
      go_wp2
      go_ret
      exact ⟨_, rfl, HI.out.wider hb.size (Nat.le_refl _), hb.trans (hB.mono hb.size)⟩

set_option maxHeartbeats 400000 in
theorem sTimesChords_yes (p f : Nat) (w : World) (h : 3 ≤ p ∧ p ≤ 60) (hf : f < p) :
    Calls Try.prog 16 #[.int .i64 p, .int .i64 f] w (Gives (PairsIn 56) w (chordsF p f) true) := by
  have g : (3 ≤ (p : Int) ∧ (p : Int) ≤ 60) ∧ (0 ≤ (f : Int) ∧ (f : Int) < p) := by omega
  go_enter Try.func16, Try.ntmps16
  go_wp2_with (first | (go_at_call 29; (with_reducible refine (taGood_yes _ _ _ g).mono ?_); rintro e w1 ⟨rfl, rfl⟩) | (go_at_call 40; (with_reducible refine (taChords_any _ _ _ h hf).mono ?_); rintro e w1 ⟨v, rfl, hI, hb⟩))
  go_ret2
  exact givePairsF true hI (Nat.le_refl _) hb

set_option maxHeartbeats 400000 in
theorem sTimesChords_no (p f : Int) (w : World) (h : ¬ ((3 ≤ p ∧ p ≤ 60) ∧ (0 ≤ f ∧ f < p))) :
    Calls Try.prog 16 #[.int .i64 p, .int .i64 f] w (Gives (PairsIn 56) w [] false) := by
  go_enter Try.func16, Try.ntmps16
  go_wp2_with (first | (go_at_call 29; (with_reducible refine (taGood_no _ _ _ h).mono ?_); rintro e w1 ⟨rfl, rfl⟩))
  go_ret2
  exact ⟨_, rfl, PairsIn.nil _ _ _ _, Below.refl _ _⟩

set_option maxHeartbeats 400000 in
theorem chordBtw_any (a b : Int) (w : World) :
    Calls Try.prog 41 #[.int .i64 a, .int .i64 b] w fun e w' => e = .returned (.agg #[.int .i64 (min a b), .int .i64 (max a b)]) ∧ Below w.heap.size w w' := by
  rcases Int.lt_trichotomy a b with h | h | h
  · have h1 : min a b = a := by omega
    have h2 : max a b = b := by omega
    have h3 : ¬ b < a := by omega
    go_enter Try.func41, Try.ntmps41
    go_wp2
    go_returns
    exact ⟨rfl, by go_grown⟩
  · subst h
    have h1 : min a a = a := by omega
    have h2 : max a a = a := by omega
    go_enter Try.func41, Try.ntmps41
    go_wp2
    go_returns
    exact ⟨by rw [h1, h2], by go_grown⟩
  · have h1 : min a b = b := by omega
    have h2 : max a b = a := by omega
    have h3 : ¬ a < b := by omega
    go_enter Try.func41, Try.ntmps41
    go_wp2
    go_returns
    exact ⟨rfl, by go_grown⟩

set_option maxHeartbeats 4000000 in
set_option maxRecDepth 100000 in
theorem iTimesChords_yes (p f : Nat) (w : World) (h : 3 ≤ p ∧ p ≤ 60) (hf : f < p) :
    Calls Try.prog 17 #[.int .i64 p, .int .i64 f] w (Gives (PairsIn 56) w (chordsF p f) true) := by
  have g : (3 ≤ (p : Int) ∧ (p : Int) ≤ 60) ∧ (0 ≤ (f : Int) ∧ (f : Int) < p) := by omega
  have p0 : 0 ≤ (p : Int) := by omega
  have p1 : (p : Int) ≤ 60 := by omega
  have hmm := @run_makeMap Try.prog
  go_enter Try.func17, Try.ntmps17
  go_wp2_with (first
    | (go_at_call 32; (with_reducible refine (isTable_yes _ _ _ g).mono ?_); rintro e w1 ⟨rfl, rfl⟩)
    | (go_at_call 33; (with_reducible refine (rowOf_any _ _ _ h hf).mono ?_); rintro e w1 ⟨rfl, hb⟩; have HR := Lib.hid (RowAt.new w1 p f); have HB := Lib.hid (hb.alloc hb.size (.cells (rowV p f p) 45)); have n1 := hb.size; clear hb)
    | (with_reducible refine wpList_store_new rfl 45 (.tmp 6) (.tmp 16) rfl (rowV p f p) rfl rfl _ (info_rowV p f h.2) (by simp [rowV_size p f p h.2]) (rowV_one p f p) ?_))
  have hm0 := SetC.made (w1.alloc (.cells (rowV p f p) 45))
  rw [World.size_alloc] at hm0
  have HM := Lib.hid hm0
  clear hmm hm0
  go_loopw [21] (fun i wr => ∃ k j : Nat, k ≤ p ∧ j ≤ k ∧ i = .int .i64 k ∧ SetC wr (w1.heap.size + 1) j (linesF p f k) ∧ Below w.heap.size w wr ∧ w1.heap.size + 2 ≤ wr.heap.size ∧ Hid (RowAt wr w1.heap.size p f)) (fun i _ => p - (intOf i).toNat)
  case atStart => exact ⟨0, 0, by omega, by omega, rfl, HM.out, HB.out.alloc (by simp; omega) _, by simp, Lib.hid (HR.out.keep ((Below.refl _ _).alloc (Nat.le_refl _) _))⟩
  case round =>
    obtain ⟨k, j, hk, hj, rfl, hS, hB, hz1, HRK⟩ := hrel
    have hz := hB.size
    have hbl := hS.lt
    by_cases hlt : k < p
    · obtain ⟨x, hx⟩ : ∃ x, k * f % p = x := ⟨_, rfl⟩
      have hxp : x < p := by rw [← hx]; exact Nat.mod_lt _ (by omega)
      have cc := HRK.out.cell k hlt
      rw [hx] at cc
      by_cases hne : x = k
      · have e1 : ((k : Int) != (x : Int)) = false := by rw [hne]; simp
        have e2 : ((k : Int) == (x : Int)) = true := by rw [hne]; simp
        have HN := Lib.hid (linesF_no p f k (by rw [hx, hne]))
        have HSK := Lib.hid hS
        clear hx hne hS
        go_wp2
        go_roundw
        case rel => exact ⟨k + 1, j, by omega, by omega, by go_num, by rw [HN.out]; exact HSK.out, hB, by omega, HRK⟩
        case measure => simp [intOf]; omega
      · have e1 : ((k : Int) != (x : Int)) = true := bne_iff_ne.2 (by omega)
        have e2 : ((k : Int) == (x : Int)) = false := beq_eq_false_iff_ne.2 (by omega)
        have HN := Lib.hid (show linesF p f (k + 1) = linesF p f k ++ [(min (k : Int) (x : Int), max (k : Int) (x : Int))] by rw [linesF_yes p f k (by rw [hx]; exact hne), lineF, hx])
        obtain ⟨kl, hkl⟩ := isKey_ex (min (k : Int) (x : Int), max (k : Int) (x : Int)) (WalkArith.wf_i64 (by omega)) (WalkArith.wf_i64 (by omega))
        have HKL := Lib.hid hkl
        obtain ⟨D, hown, hk1, hk2⟩ := hS
        have HO := Lib.hid hown
        have K1 := Lib.hid hk1
        have K2 := Lib.hid hk2
        clear hx hne hkl hown hk1 hk2
        go_wp2_with (first
          | (go_at_call 41; (with_reducible refine (chordBtw_any _ _ _).mono ?_); rintro e w2 ⟨rfl, hb2⟩; (have B2 := hB.trans (hb2.mono hz)); (have HO2 := Lib.hid (HO.out.kept (Below.by hb2) (by simp))); have HRK2 := Lib.hid (HRK.out.keep hb2); (have n2 := hb2.size))
          | (at_mapUpdate; refine wpList_mapUpdate_own _ rfl _ _ _ 54 rfl 56 4 keyC Try.underlying54 _ (w1.heap.size + 1) j _ rfl HO2.out (by unfold maxLen; omega) _ _ kl rfl rfl HKL.out _ [] (elemB_mk true) ?_; intro w3 hown3 hg3; have HO3 := Lib.hid hown3; have HG3 := Lib.hid hg3; clear hown3 hg3; go_frame))
        have hS3 := SetC.put HO.out K1.out K2.out HKL.out HO3.out
        rw [← HN.out] at hS3
        have HRK3 : Hid (RowAt w3 w1.heap.size p f) := Lib.hid ((HG3.out.block w1.heap.size (by omega) (by simp)).trans HRK2.out)
        have B3 := B2.grown HG3.out (by omega) (fun j hj => by cases hj; omega)
        have n3 := HG3.out.size
        go_roundw
        case rel => exact ⟨k + 1, j + 1, by omega, by omega, by go_num, hS3, B3, by omega, HRK3⟩
        case measure => simp [intOf]; omega
    · obtain rfl : k = p := by omega
      have HS := Lib.hid hS
      clear hS
      go_wp2_with (first
        | (go_at_call 42; refine (emptyInOrder_any (w1.heap.size + 1) j _ _ HS.out (by omega)).mono ?_; rintro e w2 ⟨v2, ys, rfl, hp2, hso, hme, hb2⟩; have HP2 := Lib.hid hp2; have HSO := Lib.hid hso; have HME := Lib.hid hme; clear hp2 hso hme))
      have hys := chordsF_unique k f ys HSO.out HME.out
      go_ret2
      exact givePairsF true (hys ▸ HP2.out) hz (hB.trans (hb2.mono (by omega)))

set_option maxHeartbeats 400000 in
theorem iTimesChords_no (p f : Int) (w : World) (h : ¬ ((3 ≤ p ∧ p ≤ 60) ∧ (0 ≤ f ∧ f < p))) :
    Calls Try.prog 17 #[.int .i64 p, .int .i64 f] w (Gives (PairsIn 56) w [] false) := by
  go_enter Try.func17, Try.ntmps17
  go_wp2_with (first | (go_at_call 32; (with_reducible refine (isTable_no _ _ _ h).mono ?_); rintro e w1 ⟨rfl, rfl⟩))
  go_ret2
  exact ⟨_, rfl, PairsIn.nil _ _ _ _, Below.refl _ _⟩

end Go.Proofs.Ytincoaebdmikbab
