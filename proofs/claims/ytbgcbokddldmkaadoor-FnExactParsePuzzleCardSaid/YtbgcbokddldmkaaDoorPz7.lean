/- Puzzles that texts tell: both readers, by the text; the law. -/
import Derived.Test.YtbgcbokddldmkaaDoorPz5
import Derived.Test.YtbgcbokddldmkaaDoorPz6
namespace Go.Proofs.YtbgcbokddldmkaaDoor
open Go.RowKit
set_option linter.unusedVariables false

theorem dB_data (n : Nat) (h : n < 1000) : (dB n).data.toList = dec3 n := by
  unfold dB
  rw [← decDigits_dec3 n h]

theorem clueB_data (c : Tri) (h : c.1.toNat < 1000 ∧ c.2.1.toNat < 1000 ∧ c.2.2.toNat < 1000) : (clueB c).data.toList = dec3 c.1.toNat ++ 46 :: (dec3 c.2.1.toNat ++ 46 :: dec3 c.2.2.toNat) := by
  unfold clueB
  simp only [ByteArray.data_append, Array.toList_append, dB_data _ h.1, dB_data _ h.2.1, dB_data _ h.2.2]
  simp

theorem ptextsB_get (xs : List Tri) (n k : Nat) (h : k < n) : (ptextsB xs n).getD k ⟨#[]⟩ = clueB (xs.getD k noT) := by
  simp [ptextsB, List.getD, h]

theorem p_small {xs : List Tri} (hg : puzzleP xs) (k : Nat) (hk : k < xs.length) : ((xs.getD k noT).1.toNat < 1000 ∧ (xs.getD k noT).2.1.toNat < 1000 ∧ (xs.getD k noT).2.2.toNat < 1000) ∧ ((xs.getD k noT).1.toNat : Int) = (xs.getD k noT).1 ∧ ((xs.getD k noT).2.1.toNat : Int) = (xs.getD k noT).2.1 ∧ ((xs.getD k noT).2.2.toNat : Int) = (xs.getD k noT).2.2 := by
  have := puzzle_small hg k hk
  omega

theorem ptexts_free {xs : List Tri} (hg : puzzleP xs) : FreeP 44 ((ptextsB xs xs.length).map (·.data.toList)) := by
  intro p hp
  simp only [ptextsB, List.map_map, List.mem_map, List.mem_range, Function.comp] at hp
  obtain ⟨k, hk, rfl⟩ := hp
  obtain ⟨h1, _⟩ := p_small hg k hk
  rw [clueB_data _ h1]
  simp only [List.all_append, List.all_cons, (dec3_free _ h1.1).1, (dec3_free _ h1.2.1).1, (dec3_free _ h1.2.2).1]
  rfl

theorem ptexts_join (xs : List Tri) : Lib.join ((ptextsB xs xs.length).map (·.data.toList)) [44] = (ptextB xs xs.length).data.toList := by
  rw [ptextB_join]

theorem ptexts_ne {xs : List Tri} (h : 0 < xs.length) : ptextsB xs xs.length ≠ [] := by
  intro e
  have := congrArg List.length e
  rw [ptextsB_length] at this
  have h2 : xs.length = 0 := this
  omega

theorem okC_clue (c : Tri) (h : c.1.toNat < 1000 ∧ c.2.1.toNat < 1000 ∧ c.2.2.toNat < 1000) : okC (clueB c).data.toList = true ∧ numC (clueB c).data.toList = ((c.1.toNat : Int), (c.2.1.toNat : Int), (c.2.2.toNat : Int)) := by
  rw [clueB_data _ h]
  exact okC_at (dec3_free _ h.1).2.2.1 (dec3_free _ h.2.1).2.2.1 (plainT_dec3 _ h.1) (plainT_dec3 _ h.2.1) (plainT_dec3 _ h.2.2)

theorem okC_back {l : List UInt8} (h : okC l = true) (hs : (numC l).1.toNat < 1000 ∧ (numC l).2.1.toNat < 1000 ∧ (numC l).2.2.toNat < 1000) : l = (clueB (numC l)).data.toList := by
  rw [clueB_data _ hs]
  obtain ⟨x, y, z, a, b, c, hl, ha, hb, hc, hn⟩ := okC_some h
  rw [hn] at hs ⊢
  simp only [Int.toNat_natCast] at hs ⊢
  rw [hl, plainT_some3 ha hs.1, plainT_some3 hb hs.2.1, plainT_some3 hc hs.2.2]

theorem mapT_range {xs : List Tri} : (List.range xs.length).map (fun k => xs.getD k noT) = xs := by
  apply List.ext_getElem?
  intro i
  by_cases h : i < xs.length
  · simp [h, List.getD]
  · simp [h]

theorem puzzle_nil : puzzleP ([] : List Tri) := ⟨by simp, fun k hk => by simp at hk⟩

theorem iParsePuzzle_yes (s : ByteArray) (xs : List Tri) (w : World) (ht : s.size ≤ 1048576) (hn : NumW w) (hW : ClueW w) (hg : puzzleP xs) (h : s = ptextB xs xs.length) :
    Calls Tryd.prog 36 #[.string s] w (GivesZ w xs true) := by
  by_cases hx : 0 < xs.length
  · have hj : Lib.join ((ptextsB xs xs.length).map (·.data.toList)) [44] = s.data.toList := by rw [h]; exact ptexts_join xs
    have hP := split_parts s 44 _ (ptexts_ne hx) (ptexts_free hg) hj
    have hl := ptextsB_length xs xs.length
    have hl6 := hg.1
    have hpos : 0 < s.size := by
      have := part_le hj 0 (by omega)
      rw [ptextsB_get _ _ _ hx] at this
      have h2 : 0 < (clueB (xs.getD 0 noT)).size := by rw [size_list, clueB_data _ (p_small hg 0 hx).1]; simp; omega
      omega
    refine iParsePuzzle_loop s (ptextsB xs xs.length) (fun k => xs.getD k noT) (fun _ => true) w hn hW (size_pos_ne hpos) (by omega) (fun W hW => split_any s _ W ht hW hP) (fun k hk W hW => ?_) (ptextsB xs xs.length).length true xs (Nat.le_refl _) (fun _ _ => rfl) (.inl ⟨rfl, ⟨rfl, ?_⟩, ?_⟩)
    · rw [hl] at hk
      rw [ptextsB_get _ _ _ hk]
      obtain ⟨h1, h2, h3, h4⟩ := p_small hg k hk
      have hsz : (clueB (xs.getD k noT)).size ≤ 1048576 := by have := clueB_size (xs.getD k noT) h1; omega
      have hc := numbersOfClue_any (clueB (xs.getD k noT)) W hsz hW
      obtain ⟨g1, g2⟩ := okC_clue _ h1
      rw [g1, g2, h2, h3, h4] at hc
      exact hc
    · rw [hl, mapT_range]
    · rw [hl, mapT_range]; exact hg
  · have hx0 : xs = [] := List.eq_nil_of_length_eq_zero (by omega)
    subst hx0
    rw [h]
    exact iParsePuzzle_nil w

theorem clues_back {P : List ByteArray} {L : List Tri} {f : Nat → Tri} (hL : (List.range P.length).map f = L) (hg : puzzleP L) (hb : ∀ k, k < P.length → (f k).1.toNat < 1000 ∧ (f k).2.1.toNat < 1000 ∧ (f k).2.2.toNat < 1000 → (P.getD k ⟨#[]⟩).data.toList = (clueB (f k)).data.toList) : P = ptextsB L L.length := by
  have hLl : L.length = P.length := by rw [← hL]; simp
  apply List.ext_getElem?
  intro k
  by_cases hk : k < P.length
  · have hk2 : k < L.length := by omega
    have e1 : P[k]? = some (P.getD k ⟨#[]⟩) := by rw [List.getD, List.getElem?_eq_getElem hk]; rfl
    have e2 : (ptextsB L L.length)[k]? = some (clueB (L.getD k noT)) := by simp [ptextsB, hk2]
    have hk3 : L.getD k noT = f k := by
      rw [← hL]
      simp only [List.getD, List.getElem?_map, List.getElem?_range hk, Option.map_some, Option.getD_some]
    obtain ⟨b1, _⟩ := p_small hg k hk2
    rw [e1, e2, hk3]
    rw [hk3] at b1
    congr 1
    apply ByteArray.ext
    apply Array.toList_inj.1
    exact hb k hk b1
  · rw [List.getElem?_eq_none (by omega), List.getElem?_eq_none (by rw [ptextsB_length]; omega)]

theorem iParsePuzzle_no (s : ByteArray) (w : World) (ht : s.size ≤ 1048576) (hn : NumW w) (hW : ClueW w) (h : ∀ xs, puzzleP xs → s ≠ ptextB xs xs.length) :
    Calls Tryd.prog 36 #[.string s] w (GivesZ w [] false) := by
  by_cases hpos : 0 < s.size
  · obtain ⟨hf, hj⟩ := splitB_free 44 _ s rfl
    obtain ⟨P, hP⟩ : ∃ P, Lib.splitB ⟨#[44]⟩ 0 (Lib.countB s ⟨#[44]⟩) s = P := ⟨_, rfl⟩
    rw [hP] at hf hj
    have hle := parts_le hj
    have base := iParsePuzzle_loop s P (fun k => numC (P.getD k ⟨#[]⟩).data.toList) (fun k => okC (P.getD k ⟨#[]⟩).data.toList) w hn hW (size_pos_ne hpos) (by omega) (fun W hW => split_any s P W ht hW hP) (fun k hk W hW => numbersOfClue_any _ W (by have := part_le hj k hk; omega) hW)
    rcases first_no (fun k => okC (P.getD k ⟨#[]⟩).data.toList) P.length with ha | ⟨m, h1, h2, h3⟩
    · refine base P.length false [] (Nat.le_refl _) ha (.inr (.inl ⟨rfl, ⟨rfl, rfl⟩, fun hg => ?_⟩))
      refine h _ hg ?_
      have hPL := clues_back rfl hg (fun k hk hs => okC_back (ha k hk) hs)
      apply ByteArray.ext
      apply Array.toList_inj.1
      rw [← hj, ← ptexts_join, ← hPL]
    · exact base m false [] (by omega) h3 (.inr (.inr ⟨h1, ⟨rfl, rfl⟩, h2⟩))
  · exact absurd (size_zero hpos) (h [] puzzle_nil)

theorem split46 (t : ByteArray) (ht : t.size ≤ 1048576) : ∀ W, Calls Tryd.prog 83 #[.string t, .int .u8 46] W fun e w' => ∃ v, e = .returned v ∧ Strs w' W.heap.size 9 v (partB2 t 46) ∧ Below W.heap.size W w' := fun W => l1Split_any t 46 W ht (by omega)

theorem part3_join {t a b c : ByteArray} (h : partB2 t 46 = [a, b, c]) : t.data.toList = a.data.toList ++ 46 :: (b.data.toList ++ 46 :: c.data.toList) := by
  obtain ⟨_, g⟩ := partB2_free t 46
  have h' : partB2 t (46 : UInt8).toNat = [a, b, c] := h
  rw [h'] at g
  simp only [List.map_cons, List.map_nil] at g
  rw [join_more, join_more, Lib.join_one] at g
  simpa using g.symm

theorem part3_at {t : ByteArray} {x y z : List UInt8} (h : t.data.toList = x ++ 46 :: (y ++ 46 :: z)) (hx : x.all (fun u => u != 46) = true) (hy : y.all (fun u => u != 46) = true) (hz : z.all (fun u => u != 46) = true) : partB2 t 46 = [⟨x.toArray⟩, ⟨y.toArray⟩, ⟨z.toArray⟩] := by
  refine model_parts t 46 [⟨x.toArray⟩, ⟨y.toArray⟩, ⟨z.toArray⟩] (by simp) ?_ ?_
  · intro p hp
    simp at hp
    rcases hp with rfl | rfl | rfl
    · simpa using hx
    · simpa using hy
    · simpa using hz
  · simp only [List.map_cons, List.map_nil]
    rw [join_more, join_more, Lib.join_one, h]
    simp

theorem pzParse_yes (s : ByteArray) (xs : List Tri) (w : World) (hg : puzzleP xs) (h : s = ptextB xs xs.length) :
    Calls Tryd.prog 75 #[.string s] w (GivesZ w xs true) := by
  by_cases hx : 0 < xs.length
  · have hj : Lib.join ((ptextsB xs xs.length).map (·.data.toList)) [44] = s.data.toList := by rw [h]; exact ptexts_join xs
    have hP : partB2 s 44 = _ := model_parts s 44 _ (ptexts_ne hx) (ptexts_free hg) hj
    have hl := ptextsB_length xs xs.length
    have hts := ptextB_size xs (small_of (puzzle_small hg)) xs.length
    rw [← h] at hts
    have hl6 := hg.1
    have hpos : 0 < s.size := by
      have := part_le hj 0 (by omega)
      rw [ptextsB_get _ _ _ hx] at this
      have h2 : 0 < (clueB (xs.getD 0 noT)).size := by rw [size_list, clueB_data _ (p_small hg 0 hx).1]; simp; omega
      omega
    refine pzParse_loop s (ptextsB xs xs.length) (fun k => xs.getD k noT) w (by omega) (by omega) (by omega) (by omega) (fun W => by rw [← hP]; exact l1Split_any s 44 W (by omega) (by omega)) (ptextsB xs xs.length).length true xs (Nat.le_refl _) (fun k hk => ?_) (.inl ⟨rfl, ⟨rfl, ?_⟩, ?_, ?_⟩)
    · rw [hl] at hk
      rw [ptextsB_get _ _ _ hk]
      obtain ⟨h1, h2, h3, h4⟩ := p_small hg k hk
      have hsz : (clueB (xs.getD k noT)).size ≤ 1048576 := by have := clueB_size (xs.getD k noT) h1; omega
      have hp3 := part3_at (clueB_data _ h1) (dec3_free _ h1.1).2.2.1 (dec3_free _ h1.2.1).2.2.1 (dec3_free _ h1.2.2).2.2.1
      have rd : ∀ (n : Nat) (q : Int), n < 1000 → (n : Int) = q → ∀ W, Calls Tryd.prog 84 #[.string ⟨(dec3 n).toArray⟩] W fun e w' => e = .returned (.int .i64 q) ∧ W = w' := fun n q hn hq W => by
        have := l1Read_any ⟨(dec3 n).toArray⟩ W (by rw [list_size]; have := (dec3_len n hn).2; omega)
        rw [data_arr, readT_dec3 _ hn, hq] at this
        exact this
      exact ⟨_, _, _, fun W => by rw [← hp3]; exact split46 _ hsz W, rd _ _ h1.1 h2, rd _ _ h1.2.1 h3, rd _ _ h1.2.2 h4⟩
    · rw [hl, mapT_range]
    · rw [hl, mapT_range]; exact hg
    · rw [hl, mapT_range]; exact h.symm
  · have hx0 : xs = [] := List.eq_nil_of_length_eq_zero (by omega)
    subst hx0
    rw [h]
    exact pzParse_nil w

theorem part3_one {t : ByteArray} (h : (partB2 t 46).length = 3) : ∃ a b c, partB2 t 46 = [a, b, c] := by
  match hp : partB2 t 46, h with
  | [a, b, c], _ => exact ⟨a, b, c, rfl⟩

/-- What the model reads of a part. -/
def numM (t : ByteArray) : Tri := (readT ((partB2 t 46).getD 0 ⟨#[]⟩).data.toList, readT ((partB2 t 46).getD 1 ⟨#[]⟩).data.toList, readT ((partB2 t 46).getD 2 ⟨#[]⟩).data.toList)

theorem pzParse_no (s : ByteArray) (w : World) (h : ∀ xs, puzzleP xs → s ≠ ptextB xs xs.length) :
    ∃ R, ∀ w, Calls Tryd.prog 75 #[.string s] w (GivesZ w R false) := by
  by_cases h100 : (s.size : Int) ≤ 100
  · by_cases hpos : 0 < s.size
    · obtain ⟨hf, hj⟩ := partB2_free s 44
      obtain ⟨P, hP⟩ : ∃ P, partB2 s 44 = P := ⟨_, rfl⟩
      have hP' : partB2 s (44 : UInt8).toNat = P := hP
      rw [hP'] at hf hj
      have hle := parts_le hj
      have hp0 := (part_pos s 44).1
      rw [hP] at hp0
      have base := fun w => pzParse_loop s P (fun k => numM (P.getD k ⟨#[]⟩)) w h100 (by omega) (by omega) hp0 (fun W => by rw [← hP]; exact l1Split_any s 44 W (by omega) (by omega))
      have hok : ∀ k, k < P.length → (decide ((partB2 (P.getD k ⟨#[]⟩) 46).length = 3)) = true → ∃ a b c : ByteArray, (∀ W, Calls Tryd.prog 83 #[.string (P.getD k ⟨#[]⟩), .int .u8 46] W fun e w' => ∃ v, e = .returned v ∧ Strs w' W.heap.size 9 v [a, b, c] ∧ Below W.heap.size W w') ∧ (∀ W, Calls Tryd.prog 84 #[.string a] W fun e w' => e = .returned (.int .i64 (numM (P.getD k ⟨#[]⟩)).1) ∧ W = w') ∧ (∀ W, Calls Tryd.prog 84 #[.string b] W fun e w' => e = .returned (.int .i64 (numM (P.getD k ⟨#[]⟩)).2.1) ∧ W = w') ∧ (∀ W, Calls Tryd.prog 84 #[.string c] W fun e w' => e = .returned (.int .i64 (numM (P.getD k ⟨#[]⟩)).2.2) ∧ W = w') := by
        intro k hk h3
        have hsz := part_le hj k hk
        obtain ⟨a, b, c, habc⟩ := part3_one (of_decide_eq_true h3)
        have hin := part3_join habc
        have hs2 : (P.getD k ⟨#[]⟩).size = a.size + b.size + c.size + 2 := by rw [size_list, hin, size_list a, size_list b, size_list c]; simp; omega
        refine ⟨a, b, c, fun W => by rw [← habc]; exact split46 _ (by omega) W, fun W => ?_, fun W => ?_, fun W => ?_⟩ <;> unfold numM <;> rw [habc]
        · exact l1Read_any a W (by omega)
        · exact l1Read_any b W (by omega)
        · exact l1Read_any c W (by omega)
      rcases first_no (fun k => decide ((partB2 (P.getD k ⟨#[]⟩) 46).length = 3)) P.length with ha | ⟨m, h1, h2, h3⟩
      · refine ⟨(List.range P.length).map (fun k => numM (P.getD k ⟨#[]⟩)), fun w => base w P.length false _ (Nat.le_refl _) (fun k hk => hok k hk (ha k hk)) ?_⟩
        by_cases hg : puzzleP ((List.range P.length).map (fun k => numM (P.getD k ⟨#[]⟩)))
        · exact .inr (.inl ⟨rfl, ⟨rfl, rfl⟩, hg, fun e => h _ hg e.symm⟩)
        · exact .inr (.inr (.inl ⟨rfl, ⟨rfl, rfl⟩, hg⟩))
      · exact ⟨[], fun w => base w m false [] (by omega) (fun k hk => hok k (by omega) (h3 k hk)) (.inr (.inr (.inr ⟨h1, ⟨rfl, rfl⟩, partB2 (P.getD m ⟨#[]⟩) 46, of_decide_eq_false h2, (part_pos _ _).1, split46 _ (by have := part_le hj m h1; omega)⟩)))⟩
    · exact absurd (size_zero hpos) (h [] puzzle_nil)
  · exact ⟨[], fun w => pzParse_long s w (by omega)⟩

set_option maxHeartbeats 1000000 in
theorem sParsePuzzle_true (s : ByteArray) (w : World) (xs : List Tri) (hp : ∀ W, Calls Tryd.prog 75 #[.string s] W (GivesZ W xs true)) : Calls Tryd.prog 35 #[.string s] w (GivesZ w xs true) := by
  have HP := Lib.hid hp
  clear hp
  go_enter Tryd.func35, Tryd.ntmps35
  go_wp2_with (first | (go_at_call 75; (refine (HP.out _).mono ?_); rintro e w1 ⟨v, rfl, hI, hb1⟩; obtain ⟨va, vn, vc, hv⟩ := own_formT hI.1; subst hv; (have hb : Below w.heap.size w w1 := Below.trans (by go_grown) (hb1.mono (by simp))); (have hz1 : w.heap.size < w1.heap.size := by (have := hb1.size; simp at this; omega)); (have c0 : w1.cell? ⟨w.heap.size, 0, none⟩ = some (.slice none 0 0) := cellB hb1 (by go_simp)); (have f0 : w1.frozen? ⟨w.heap.size, 0, none⟩ = false := frozenB hb1 (by simp) (by go_simp)); (have q0 := cellB (show Below w1.heap.size w1 (w1.alloc (.cells #[.slice va vn vc] 31)) from (Below.refl _ _).alloc (Nat.le_refl _) _) c0); (have g0 := frozenB (show Below w1.heap.size w1 (w1.alloc (.cells #[.slice va vn vc] 31)) from (Below.refl _ _).alloc (Nat.le_refl _) _) hz1 f0); (have HI := Lib.hid hI); (have hs1 := hb1.size); simp at hs1; clear hI))
  have qq := cellB (show Below (w1.setCell ⟨w.heap.size, 0, none⟩ (.slice va vn vc)).heap.size (w1.setCell ⟨w.heap.size, 0, none⟩ (.slice va vn vc)) ((w1.setCell ⟨w.heap.size, 0, none⟩ (.slice va vn vc)).alloc (.cells #[.slice va vn vc] 31)) from (Below.refl _ _).alloc (Nat.le_refl _) _) (show (w1.setCell ⟨w.heap.size, 0, none⟩ (.slice va vn vc)).cell? ⟨w.heap.size, 0, none⟩ = some (.slice va vn vc) by go_simp)
  refine bodyPost_ret (v := .tuple #[.agg #[.slice va vn vc], .bool true]) (by simp [results, Tryd.results35, go_sem, qq]) rfl ⟨_, rfl, ?_, ?_⟩
  · skip
    first
      | exact (((HI.out.wider (B' := w.heap.size + 1) (by simp) (Nat.le_refl _)).keep (belowSame ((Below.refl _ _).alloc (Nat.le_refl _) _) (Nat.le_refl _))).setC ⟨w.heap.size, 0, none⟩ _ (Nat.lt_succ_self _)).wider (by omega) (by simp)
      | exact (((HI.out.wider (B' := w.heap.size + 1) (by simp) (Nat.le_refl _)).setC ⟨w.heap.size, 0, none⟩ _ (Nat.lt_succ_self _)).keep (belowSame ((Below.refl _ _).alloc (Nat.le_refl _) _) (by simp))).wider (by omega) (by simp)
  · first
      | exact (hb.alloc (by omega) _).setC _ _ (Nat.le_refl _)
      | exact (hb.setC _ _ (Nat.le_refl _)).alloc (by simp; omega) _

set_option maxHeartbeats 1000000 in
theorem sParsePuzzle_false (s : ByteArray) (w : World) (R : List Tri) (hp : ∀ W, Calls Tryd.prog 75 #[.string s] W (GivesZ W R false)) : Calls Tryd.prog 35 #[.string s] w (GivesZ w [] false) := by
  have HP := Lib.hid hp
  clear hp
  go_enter Tryd.func35, Tryd.ntmps35
  go_wp2_with (first | (go_at_call 75; (refine (HP.out _).mono ?_); rintro e w1 ⟨v, rfl, hI, hb1⟩; obtain ⟨va, vn, vc, hv⟩ := own_formT hI.1; subst hv; (have hb : Below w.heap.size w w1 := Below.trans (by go_grown) (hb1.mono (by simp))); (have hz1 : w.heap.size < w1.heap.size := by (have := hb1.size; simp at this; omega)); (have c0 : w1.cell? ⟨w.heap.size, 0, none⟩ = some (.slice none 0 0) := cellB hb1 (by go_simp)); (have f0 : w1.frozen? ⟨w.heap.size, 0, none⟩ = false := frozenB hb1 (by simp) (by go_simp)); (have q0 := cellB (show Below w1.heap.size w1 (w1.alloc (.cells #[.slice va vn vc] 31)) from (Below.refl _ _).alloc (Nat.le_refl _) _) c0); (have g0 := frozenB (show Below w1.heap.size w1 (w1.alloc (.cells #[.slice va vn vc] 31)) from (Below.refl _ _).alloc (Nat.le_refl _) _) hz1 f0); (have HI := Lib.hid hI); (have hs1 := hb1.size); simp at hs1; clear hI))
  have qq := cellB (show Below (w1.setCell ⟨w.heap.size, 0, none⟩ (.slice none 0 0)).heap.size (w1.setCell ⟨w.heap.size, 0, none⟩ (.slice none 0 0)) ((w1.setCell ⟨w.heap.size, 0, none⟩ (.slice none 0 0)).alloc (.cells #[.slice va vn vc] 31)) from (Below.refl _ _).alloc (Nat.le_refl _) _) (show (w1.setCell ⟨w.heap.size, 0, none⟩ (.slice none 0 0)).cell? ⟨w.heap.size, 0, none⟩ = some (.slice none 0 0) by go_simp)
  refine bodyPost_ret (v := .tuple #[.agg #[.slice none 0 0], .bool false]) (by simp [results, Tryd.results35, go_sem, qq]) rfl ⟨_, rfl, ?_, ?_⟩
  · skip
    exact TripsIn.nil _ _ _ _
  · first
      | exact (hb.alloc (by omega) _).setC _ _ (Nat.le_refl _)
      | exact (hb.setC _ _ (Nat.le_refl _)).alloc (by simp; omega) _

/-- What ParsePuzzle asks of the world. -/
structure NumClue (w : World) : Prop where
  num : NumW w
  clue : ClueW w
theorem NumClue.later {w w' : World} (h : NumClue w) (hb : Below w.heap.size w w') : NumClue w' := ⟨h.num.later hb, h.clue.later hb⟩

set_option maxHeartbeats 2000000 in
theorem core_ParsePuzzle (t : ByteArray) (x : List Tri) (b : Bool) (w : World) (hn : NumClue w) (ht : t.size ≤ 1048576) (hx : x.length ≤ 1000000)
    (hs : ∀ W, Calls Tryd.prog 35 #[.string t] W (GivesZ W x b)) (hi : ∀ W, NumClue W → Calls Tryd.prog 36 #[.string t] W (GivesZ W x b)) :
    Calls Tryd.prog 9 #[.string t] w fun e w' => e = .returned (.bool true) ∧ Below w.heap.size w w' := by
  have HS := Lib.hid hs
  have HI := Lib.hid hi
  have HN := Lib.hid hn
  have h0 : ¬ 1048576 < (t.size : Int) := by omega
  clear hs hi hn ht
  go_enter Tryd.func9, Tryd.ntmps9
  go_wp2_with fail
  refine (HS.out _).mono ?_
  rintro e w1 ⟨vw, rfl, kw_1, hx1⟩
  have hb1 : Below w.heap.size w w1 := Below.trans (by go_grown) (hx1.mono (by first | omega | (simp; done) | (simp; omega)))
  have n1 : w.heap.size + 0 ≤ w1.heap.size := by have := hx1.size; (try simp at this); omega
  have B1 : Below w.heap.size w w1 := hb1
  obtain ⟨aw, mw, cw, hvw⟩ := own_formT kw_1.1
  subst hvw
  go_wp2_with fail
  refine (HI.out _ (HN.out.later (Below.trans B1 (by go_grown)))).mono ?_
  rintro e w2 ⟨vg, rfl, kg_2, hx2⟩
  simp only [World.size_alloc] at kg_2
  have hb2 : Below w1.heap.size w1 w2 := Below.trans (by go_grown) (hx2.mono (by first | omega | (simp; done) | (simp; omega)))
  have n2 : w1.heap.size + 1 ≤ w2.heap.size := by have := hx2.size; (try simp at this); omega
  have B2 : Below w.heap.size w w2 := B1.trans (hb2.mono (by omega))
  have zw2 : w2.cell? ⟨w1.heap.size, 0, none⟩ = some (.slice aw mw cw) := cellB hx2 (by go_simp)
  have kw_2 := kw_1.keep (belowSame hb2 (by omega))
  obtain ⟨ag, mg, cg, hvg⟩ := own_formT kg_2.1
  subst hvg
  have qzwzg := cellB ((Below.refl w2.heap.size w2).alloc (Nat.le_refl _) (.cells #[Value.slice ag mg cg] 31)) zw2
  go_wp2_with fail
  refine (eqPuzzle_in _ _ x _ _ _ _ _ _ (kg_2.keep (belowSame (by go_grown) (by first | omega | (simp; done) | (simp; omega)))) (kw_2.keep (belowSame (by go_grown) (by first | omega | (simp; done) | (simp; omega)))) (by first | omega | (simp; done) | (simp; omega)) (by first | omega | (simp; done) | (simp; omega))).mono ?_
  rintro e w3 ⟨rfl, hx3⟩
  have hb3 : Below w2.heap.size w2 w3 := Below.trans (by go_grown) (hx3.mono (by first | omega | (simp; done) | (simp; omega)))
  have n3 : w2.heap.size + 1 ≤ w3.heap.size := by have := hx3.size; (try simp at this); omega
  have B3 : Below w.heap.size w w3 := B2.trans (hb3.mono (by omega))
  have zw3 := cellB hb3 zw2
  clear zw2
  have zg3 : w3.cell? ⟨w2.heap.size, 0, none⟩ = some (.slice ag mg cg) := cellB hx3 (by go_simp)
  have kw_3 := kw_2.keep (belowSame hb3 (by omega))
  have kg_3 := kg_2.keep (belowSame hb3 (by omega))
  go_wp2_with fail
  refine (markPuzzle_in _ x 1 _ _ _ _ kg_3 (by omega) (by omega) (by omega) (by omega)).mono ?_
  rintro e w4 ⟨rfl, kg_4, o4⟩
  have n4 := o4.size
  have B4 := B3.trans (o4.below (C := w.heap.size) (by omega) (by omega))
  have zw4 := o4.cell (by omega) zw3
  have zg4 := o4.cell (by omega) zg3
  clear zw3 zg3
  have kw_4 := kw_3.keep (o4.same_in (by omega) (by omega))
  go_wp2_with fail
  refine (heldPuzzle_in _ 1 x.length _ _ _ _ kg_4 (by omega) (by omega) (by omega) (by omega)).mono ?_
  rintro e w5 ⟨rfl, hx5⟩
  have hb5 : Below w4.heap.size w4 w5 := Below.trans (by go_grown) (hx5.mono (by first | omega | (simp; done) | (simp; omega)))
  have n5 : w4.heap.size + 0 ≤ w5.heap.size := by have := hx5.size; (try simp at this); omega
  have B5 : Below w.heap.size w w5 := B4.trans (hb5.mono (by omega))
  have zw5 := cellB hb5 zw4
  have zg5 := cellB hb5 zg4
  clear zw4 zg4
  have kw_5 := kw_4.keep (belowSame hb5 (by omega))
  have kg_5 := kg_4.keep (belowSame hb5 (by omega))
  go_wp2_with fail
  refine (HI.out _ (HN.out.later B5)).mono ?_
  rintro e w6 ⟨vh, rfl, kh_6, hx6⟩
  have hb6 : Below w5.heap.size w5 w6 := Below.trans (by go_grown) (hx6.mono (by first | omega | (simp; done) | (simp; omega)))
  have n6 : w5.heap.size + 0 ≤ w6.heap.size := by have := hx6.size; (try simp at this); omega
  have B6 : Below w.heap.size w w6 := B5.trans (hb6.mono (by omega))
  have zw6 := cellB hb6 zw5
  have zg6 := cellB hb6 zg5
  clear zw5 zg5
  have kw_6 := kw_5.keep (belowSame hb6 (by omega))
  have kg_6 := kg_5.keep (belowSame hb6 (by omega))
  obtain ⟨ah, mh, ch, hvh⟩ := own_formT kh_6.1
  subst hvh
  have qzwzh := cellB ((Below.refl w6.heap.size w6).alloc (Nat.le_refl _) (.cells #[Value.slice ah mh ch] 31)) zw6
  have qzgzh := cellB ((Below.refl w6.heap.size w6).alloc (Nat.le_refl _) (.cells #[Value.slice ah mh ch] 31)) zg6
  go_wp2_with fail
  refine (eqPuzzle_in _ _ x _ _ _ _ _ _ (kh_6.keep (belowSame (by go_grown) (by first | omega | (simp; done) | (simp; omega)))) (kw_6.keep (belowSame (by go_grown) (by first | omega | (simp; done) | (simp; omega)))) (by first | omega | (simp; done) | (simp; omega)) (by first | omega | (simp; done) | (simp; omega))).mono ?_
  rintro e w7 ⟨rfl, hx7⟩
  have hb7 : Below w6.heap.size w6 w7 := Below.trans (by go_grown) (hx7.mono (by first | omega | (simp; done) | (simp; omega)))
  have n7 : w6.heap.size + 1 ≤ w7.heap.size := by have := hx7.size; (try simp at this); omega
  have B7 : Below w.heap.size w w7 := B6.trans (hb7.mono (by omega))
  have zw7 := cellB hb7 zw6
  have zg7 := cellB hb7 zg6
  clear zw6 zg6
  have zh7 : w7.cell? ⟨w6.heap.size, 0, none⟩ = some (.slice ah mh ch) := cellB hx7 (by go_simp)
  have kw_7 := kw_6.keep (belowSame hb7 (by omega))
  have kg_7 := kg_6.keep (belowSame hb7 (by omega))
  have kh_7 := kh_6.keep (belowSame hb7 (by omega))
  go_wp2_with fail
  refine (heldPuzzle_in _ 1 x.length _ _ _ _ kg_7 (by omega) (by omega) (by omega) (by omega)).mono ?_
  rintro e w8 ⟨rfl, hx8⟩
  have hb8 : Below w7.heap.size w7 w8 := Below.trans (by go_grown) (hx8.mono (by first | omega | (simp; done) | (simp; omega)))
  have n8 : w7.heap.size + 0 ≤ w8.heap.size := by have := hx8.size; (try simp at this); omega
  have B8 : Below w.heap.size w w8 := B7.trans (hb8.mono (by omega))
  have zw8 := cellB hb8 zw7
  have zg8 := cellB hb8 zg7
  have zh8 := cellB hb8 zh7
  clear zw7 zg7 zh7
  have kw_8 := kw_7.keep (belowSame hb8 (by omega))
  have kg_8 := kg_7.keep (belowSame hb8 (by omega))
  have kh_8 := kh_7.keep (belowSame hb8 (by omega))
  go_wp2_with fail
  go_ret
  exact ⟨rfl, B8⟩

set_option maxHeartbeats 400000 in
theorem long_ParsePuzzle (t : ByteArray) (w : World) (ht : 1048576 < (t.size : Int)) :
    Calls Tryd.prog 9 #[.string t] w fun e w' => e = .returned (.bool true) ∧ Below w.heap.size w w' := by
  go_enter Tryd.func9, Tryd.ntmps9
  go_wp2
  go_ret
  exact ⟨rfl, Below.refl _ _⟩

theorem walk_ParsePuzzle (t : ByteArray) (w : World) (hn : NumClue w) :
    Calls Tryd.prog 9 #[.string t] w fun e w' => e = .returned (.bool true) ∧ Below w.heap.size w w' := by
  by_cases ht : 1048576 < (t.size : Int)
  · exact long_ParsePuzzle t w ht
  · have ht' : t.size ≤ 1048576 := by omega
    by_cases h : ∃ xs, puzzleP xs ∧ t = ptextB xs xs.length
    · obtain ⟨xs, hg, h⟩ := h
      exact core_ParsePuzzle t xs true w hn ht' (by have := hg.1; omega) (fun W => sParsePuzzle_true t W xs (fun W => pzParse_yes t xs W hg h)) (fun W hW => iParsePuzzle_yes t xs W ht' hW.num hW.clue hg h)
    · have h' : ∀ xs, puzzleP xs → t ≠ ptextB xs xs.length := fun xs hg e => h ⟨xs, hg, e⟩
      obtain ⟨R, hR⟩ := pzParse_no t w h'
      exact core_ParsePuzzle t [] false w hn ht' (by simp) (fun W => sParsePuzzle_false t W R hR) (fun W hW => iParsePuzzle_no t W ht' hW.num hW.clue h')

theorem numW_ParsePuzzle {W : World} (hL : laidMetH Tryd.prog Rows.fnExactParsePuzzleRow.laid W) (hsh : W.ShapedOpen Tryd.prog) : NumW W := by
  rw [Go.MakeChecks.laidMetH_plain _ _ _ (by kernel_rfl)] at hL
  have h1 : laidMet Tryd.prog (("internal/strconv.uint64pow10", Lib.tabData .u64 Lib.pow10Tab) :: ("unicode/utf8.acceptRanges", Rows.laid_unicode_utf8_acceptRanges) :: ("strconv.ErrRange", Rows.laid_strconv_ErrRange) :: ("strconv.ErrSyntax", Rows.laid_strconv_ErrSyntax) :: ("loop.example/g01324/impl.boundsOfKinds", Rows.laid_loop_example_g01324_impl_boundsOfKinds) :: ("unicode/utf8.first", Rows.laid_unicode_utf8_first) :: []) W := hL.tail.tail
  have h2 : laidMet Tryd.prog (("strconv.ErrSyntax", Rows.laid_strconv_ErrSyntax) :: ("loop.example/g01324/impl.boundsOfKinds", Rows.laid_loop_example_g01324_impl_boundsOfKinds) :: ("unicode/utf8.first", Rows.laid_unicode_utf8_first) :: []) W := hL.tail.tail.tail.tail.tail
  have h3 : laidMet Tryd.prog (("strconv.ErrRange", Rows.laid_strconv_ErrRange) :: ("strconv.ErrSyntax", Rows.laid_strconv_ErrSyntax) :: ("loop.example/g01324/impl.boundsOfKinds", Rows.laid_loop_example_g01324_impl_boundsOfKinds) :: ("unicode/utf8.first", Rows.laid_unicode_utf8_first) :: []) W := hL.tail.tail.tail.tail
  exact ⟨Lib.tabIs_of_head (t := 204) g_tab (by kernel_rfl) Tryd.underlying204 Tryd.underlying184 (by kernel_rfl) (by kernel_rfl) h1, sentinel_of g_syn ty_syn h2, sentinel_of g_ran ty_ran h3, most_of hsh⟩

theorem numClue_ParsePuzzle {W : World} (hL : laidMetH Tryd.prog Rows.fnExactParsePuzzleRow.laid W) (hsh : W.ShapedOpen Tryd.prog) : NumClue W := ⟨numW_ParsePuzzle hL hsh, clueW_ParsePuzzle hL hsh⟩

end Go.Proofs.YtbgcbokddldmkaaDoor
