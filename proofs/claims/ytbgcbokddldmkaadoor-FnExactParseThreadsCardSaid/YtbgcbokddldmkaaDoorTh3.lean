/- Threads that texts tell: both readers, by the text. -/
import Derived.Test.YtbgcbokddldmkaaDoorTh2
import Derived.Test.YtbgcbokddldmkaaDoorTh1
import Derived.Test.YtbgcbokddldmkaaDoorLG
import Derived.Test.YtbgcbokddldmkaaDoorD3
namespace Go.Proofs.YtbgcbokddldmkaaDoor
open Go.RowKit
set_option linter.unusedVariables false

theorem dB_data (n : Nat) (h : n < 1000) : (dB n).data.toList = dec3 n := by
  unfold dB
  rw [← decDigits_dec3 n h]

theorem pairB_data (c : Int × Int) (h : c.1.toNat < 1000 ∧ c.2.toNat < 1000) : (pairB c).data.toList = dec3 c.1.toNat ++ 58 :: dec3 c.2.toNat := by
  unfold pairB
  rw [ByteArray.data_append, ByteArray.data_append]
  simp [dB_data _ h.1, dB_data _ h.2]

theorem good_small {xs : List (Int × Int)} (hg : goodT xs) (k : Nat) (hk : k < xs.length) : (xs.getD k (0, 0)).1.toNat < 101 ∧ (xs.getD k (0, 0)).2.toNat < 101 ∧ ((xs.getD k (0, 0)).1.toNat : Int) = (xs.getD k (0, 0)).1 ∧ ((xs.getD k (0, 0)).2.toNat : Int) = (xs.getD k (0, 0)).2 := by
  have := goodT_at hg k hk
  omega

theorem textsB_get (xs : List (Int × Int)) (n k : Nat) (h : k < n) : (textsB xs n).getD k ⟨#[]⟩ = pairB (xs.getD k (0, 0)) := by
  simp [textsB, List.getD, h]

theorem texts_free {xs : List (Int × Int)} (hg : goodT xs) : FreeP 44 ((textsB xs xs.length).map (·.data.toList)) := by
  intro p hp
  simp only [textsB, List.map_map, List.mem_map, List.mem_range, Function.comp] at hp
  obtain ⟨k, hk, rfl⟩ := hp
  obtain ⟨h1, h2, _⟩ := good_small hg k hk
  rw [pairB_data _ ⟨by omega, by omega⟩, List.all_append, List.all_cons, (dec3_free _ (by omega)).1, (dec3_free _ (by omega)).1]
  rfl

theorem texts_join (xs : List (Int × Int)) : Lib.join ((textsB xs xs.length).map (·.data.toList)) [44] = (textB xs xs.length).data.toList := by
  rw [textB_join]

theorem texts_ne {xs : List (Int × Int)} (h : 0 < xs.length) : textsB xs xs.length ≠ [] := by
  intro e
  have := congrArg List.length e
  rw [textsB_length] at this
  have h2 : xs.length = 0 := this
  omega

theorem readC_pair {a b : Nat} (ha : a < 101) (hb : b < 101) : readP 58 (dec3 a ++ 58 :: dec3 b) = some (a, b) :=
  readP_at (dec3_free a (by omega)).2.2.2 (plainT_dec3 a (by omega)) (plainT_dec3 b (by omega))

theorem readC_some {l : List UInt8} {a b : Nat} (h : readP 58 l = some (a, b)) (ha : a < 1000) (hb : b < 1000) : l = dec3 a ++ 58 :: dec3 b := by
  obtain ⟨x, y, h3, h1, h2⟩ := readP_some h
  rw [h3, plainT_some3 h1 ha, plainT_some3 h2 hb]

theorem iParseThreads_yes (s : ByteArray) (xs : List (Int × Int)) (w : World) (ht : s.size ≤ 1048576) (hn : NumW w) (hg : goodT xs) (h : s = textB xs xs.length) :
    Calls Tryd.prog 46 #[.string s] w (Gives (PairsIn 110) w xs true) := by
  have hx : 0 < xs.length := by have := hg.1.1; omega
  · have hj : Lib.join ((textsB xs xs.length).map (·.data.toList)) [44] = s.data.toList := by rw [h]; exact texts_join xs
    have hP := split_parts s 44 _ (texts_ne hx) (texts_free hg) hj
    have hl := textsB_length xs xs.length
    have hpos : 0 < s.size := by
      have := part_le hj 0 (by omega)
      rw [textsB_get _ _ _ hx] at this
      have h2 : 0 < (pairB (xs.getD 0 (0, 0))).size := by rw [size_list, pairB_data _ (goodT_small hg 0)]; simp; omega
      omega
    refine iParseThreads_loop s (textsB xs xs.length) (fun k => xs.getD k (0, 0)) (fun _ => true) w hn (by have := hg.1.2; omega) (fun W hW => split_any s _ W ht hW hP) (fun k hk W hW => ?_) (textsB xs xs.length).length true xs (Nat.le_refl _) (fun _ _ => rfl) (.inl ⟨rfl, ⟨rfl, ?_⟩, ?_⟩)
    · rw [hl] at hk
      rw [textsB_get _ _ _ hk]
      obtain ⟨h1, h2, h3, h4⟩ := good_small hg k hk
      have hsz : (pairB (xs.getD k (0, 0))).size ≤ 1048576 := by have := pairB_size (xs.getD k (0, 0)) ⟨by omega, by omega⟩; omega
      have hc := numberPair_any (pairB (xs.getD k (0, 0))) 58 W hsz hW
      rw [pairB_data _ ⟨by omega, by omega⟩, readC_pair h1 h2] at hc
      simp only [Option.getD_some, Option.isSome_some] at hc
      rw [h3, h4] at hc
      exact hc
    · rw [hl, map_range]
    · rw [hl, map_range]; exact hg

theorem iParseThreads_no (s : ByteArray) (w : World) (ht : s.size ≤ 1048576) (hn : NumW w) (h : ∀ xs, goodT xs → s ≠ textB xs xs.length) :
    Calls Tryd.prog 46 #[.string s] w (Gives (PairsIn 110) w [] false) := by
  · obtain ⟨hf, hj⟩ := splitB_free 44 _ s rfl
    obtain ⟨P, hP⟩ : ∃ P, Lib.splitB ⟨#[44]⟩ 0 (Lib.countB s ⟨#[44]⟩) s = P := ⟨_, rfl⟩
    rw [hP] at hf hj
    have hle := parts_le hj
    have hr : ∀ k, k < P.length → ∀ W, NumW W → Calls Tryd.prog 81 #[.string (P.getD k ⟨#[]⟩), .string ⟨#[58]⟩] W fun e w' => e = .returned (.tuple #[.int .i64 ((((readP 58 (P.getD k ⟨#[]⟩).data.toList).getD (0, 0)).1 : Nat) : Int), .int .i64 ((((readP 58 (P.getD k ⟨#[]⟩).data.toList).getD (0, 0)).2 : Nat) : Int), .bool (readP 58 (P.getD k ⟨#[]⟩).data.toList).isSome]) ∧ Below W.heap.size W w' := fun k hk W hW => numberPair_any _ 58 W (by have := part_le hj k hk; omega) hW
    have base := iParseThreads_loop s P (fun k => ((((readP 58 (P.getD k ⟨#[]⟩).data.toList).getD (0, 0)).1 : Nat), (((readP 58 (P.getD k ⟨#[]⟩).data.toList).getD (0, 0)).2 : Nat))) (fun k => (readP 58 (P.getD k ⟨#[]⟩).data.toList).isSome) w hn (by omega) (fun W hW => split_any s P W ht hW hP) hr
    rcases first_no (fun k => (readP 58 (P.getD k ⟨#[]⟩).data.toList).isSome) P.length with ha | ⟨m, h1, h2, h3⟩
    · refine base P.length false [] (Nat.le_refl _) ha (.inr (.inl ⟨rfl, ⟨rfl, rfl⟩, fun hg => ?_⟩))
      refine h _ hg ?_
      obtain ⟨L, hL⟩ : ∃ L, (List.range P.length).map (fun k => (((((readP 58 (P.getD k ⟨#[]⟩).data.toList).getD (0, 0)).1 : Nat) : Int), ((((readP 58 (P.getD k ⟨#[]⟩).data.toList).getD (0, 0)).2 : Nat) : Int))) = L := ⟨_, rfl⟩
      rw [hL] at hg ⊢
      have hLl : L.length = P.length := by rw [← hL]; simp
      have hPL : P = textsB L L.length := by
        apply List.ext_getElem?
        intro k
        by_cases hk : k < P.length
        · have hk2 : k < L.length := by omega
          have e1 : P[k]? = some (P.getD k ⟨#[]⟩) := by rw [List.getD, List.getElem?_eq_getElem hk]; rfl
          have e2 : (textsB L L.length)[k]? = some (pairB (L.getD k (0, 0))) := by simp [textsB, hk2]
          rw [e1, e2]
          congr 1
          have hs := ha k hk
          obtain ⟨⟨a, b⟩, hab⟩ := Option.isSome_iff_exists.1 hs
          have hk3 : L.getD k (0, 0) = ((a : Int), (b : Int)) := by
            rw [← hL]
            simp only [List.getD, List.getElem?_map, List.getElem?_range hk, Option.map_some, Option.getD_some]
            simp only [List.getD] at hab
            rw [hab]
            rfl
          obtain ⟨b1, b2, _, _⟩ := good_small hg k hk2
          rw [hk3] at b1 b2
          apply ByteArray.ext
          apply Array.toList_inj.1
          rw [hk3, pairB_data _ ⟨by simpa using (by omega : (a : Int).toNat < 1000), by simpa using (by omega : (b : Int).toNat < 1000)⟩]
          exact readC_some hab (by simpa using (by omega : (a : Int).toNat < 1000)) (by simpa using (by omega : (b : Int).toNat < 1000))
        · rw [List.getElem?_eq_none (by omega), List.getElem?_eq_none (by rw [textsB_length]; omega)]
      apply ByteArray.ext
      apply Array.toList_inj.1
      rw [← hj, ← texts_join L, ← hPL]
    · exact base m false [] (by omega) h3 (.inr (.inr ⟨h1, ⟨rfl, rfl⟩, h2⟩))

theorem split58 (t : ByteArray) (ht : t.size ≤ 1048576) : ∀ W, Calls Tryd.prog 83 #[.string t, .int .u8 58] W fun e w' => ∃ v, e = .returned v ∧ Strs w' W.heap.size 9 v (partB2 t 58) ∧ Below W.heap.size W w' := fun W => l1Split_any t 58 W ht (by omega)

theorem sParseThreads_yes (s : ByteArray) (xs : List (Int × Int)) (w : World) (hg : goodT xs) (h : s = textB xs xs.length) :
    Calls Tryd.prog 45 #[.string s] w (Gives (PairsIn 110) w xs true) := by
  have hx : 0 < xs.length := by have := hg.1.1; omega
  · have hj : Lib.join ((textsB xs xs.length).map (·.data.toList)) [44] = s.data.toList := by rw [h]; exact texts_join xs
    have hP : partB2 s 44 = _ := model_parts s 44 _ (texts_ne hx) (texts_free hg) hj
    have hl := textsB_length xs xs.length
    have hts := textB_size xs (goodT_small hg) xs.length
    rw [← h] at hts
    have h40 := hg.1.2
    have hpos : 0 < s.size := by
      have := part_le hj 0 (by omega)
      rw [textsB_get _ _ _ hx] at this
      have h2 : 0 < (pairB (xs.getD 0 (0, 0))).size := by rw [size_list, pairB_data _ (goodT_small hg 0)]; simp; omega
      omega
    refine sParseThreads_loop s (textsB xs xs.length) (fun k => xs.getD k (0, 0)) w (by omega) (by omega) (by omega) (fun W => by rw [← hP]; exact l1Split_any s 44 W (by omega) (by omega)) (textsB xs xs.length).length true xs (Nat.le_refl _) (fun k hk => ?_) (.inl ⟨rfl, ⟨rfl, ?_⟩, ?_, ?_⟩)
    · rw [hl] at hk
      rw [textsB_get _ _ _ hk]
      obtain ⟨h1, h2, h3, h4⟩ := good_small hg k hk
      have hsz : (pairB (xs.getD k (0, 0))).size ≤ 1048576 := by have := pairB_size (xs.getD k (0, 0)) ⟨by omega, by omega⟩; omega
      have hp2 : partB2 (pairB (xs.getD k (0, 0))) 58 = _ := part_at (c := 58) (pairB_data (xs.getD k (0, 0)) ⟨by omega, by omega⟩) (dec3_free (xs.getD k (0, 0)).1.toNat (by omega)).2.2.2 (dec3_free (xs.getD k (0, 0)).2.toNat (by omega)).2.2.2
      refine ⟨⟨(dec3 (xs.getD k (0, 0)).1.toNat).toArray⟩, ⟨(dec3 (xs.getD k (0, 0)).2.toNat).toArray⟩, fun W => ?_, fun W => ?_, fun W => ?_⟩
      · rw [← hp2]; exact split58 _ hsz W
      · have := l1Read_any ⟨(dec3 (xs.getD k (0, 0)).1.toNat).toArray⟩ W (by rw [list_size]; have := (dec3_len (xs.getD k (0, 0)).1.toNat (by omega)).2; omega)
        rw [data_arr, readT_dec3 _ (by omega), h3] at this
        exact this
      · have := l1Read_any ⟨(dec3 (xs.getD k (0, 0)).2.toNat).toArray⟩ W (by rw [list_size]; have := (dec3_len (xs.getD k (0, 0)).2.toNat (by omega)).2; omega)
        rw [data_arr, readT_dec3 _ (by omega), h4] at this
        exact this
    · rw [hl, map_range]
    · rw [hl, map_range]; exact hg
    · rw [hl, map_range]; exact h.symm

theorem sParseThreads_no (s : ByteArray) (w : World) (h : ∀ xs, goodT xs → s ≠ textB xs xs.length) :
    Calls Tryd.prog 45 #[.string s] w (Gives (PairsIn 110) w [] false) := by
  by_cases h240 : (s.size : Int) ≤ 240
  · · obtain ⟨hf, hj⟩ := partB2_free s 44
      obtain ⟨P, hP⟩ : ∃ P, partB2 s 44 = P := ⟨_, rfl⟩
      have hP' : partB2 s (44 : UInt8).toNat = P := hP
      rw [hP'] at hf hj
      have hle := parts_le hj
      have hp0 := (part_pos s 44).1
      rw [hP] at hp0
      have base := sParseThreads_loop s P (fun k => (readT ((partB2 (P.getD k ⟨#[]⟩) 58).getD 0 ⟨#[]⟩).data.toList, readT ((partB2 (P.getD k ⟨#[]⟩) 58).getD 1 ⟨#[]⟩).data.toList)) w h240 (by omega) hp0 (fun W => by rw [← hP]; exact l1Split_any s 44 W (by omega) (by omega))
      have hok : ∀ k, k < P.length → (decide ((partB2 (P.getD k ⟨#[]⟩) 58).length = 2)) = true → ∃ a b : ByteArray, (∀ W, Calls Tryd.prog 83 #[.string (P.getD k ⟨#[]⟩), .int .u8 58] W fun e w' => ∃ v, e = .returned v ∧ Strs w' W.heap.size 9 v [a, b] ∧ Below W.heap.size W w') ∧ (∀ W, Calls Tryd.prog 84 #[.string a] W fun e w' => e = .returned (.int .i64 (readT ((partB2 (P.getD k ⟨#[]⟩) 58).getD 0 ⟨#[]⟩).data.toList)) ∧ W = w') ∧ (∀ W, Calls Tryd.prog 84 #[.string b] W fun e w' => e = .returned (.int .i64 (readT ((partB2 (P.getD k ⟨#[]⟩) 58).getD 1 ⟨#[]⟩).data.toList)) ∧ W = w') := by
        intro k hk h2
        have hsz := part_le hj k hk
        obtain ⟨a, b, hab⟩ := part_one (t := P.getD k ⟨#[]⟩) (c := 58) 0 (of_decide_eq_true h2)
        have hin := part_two (c := 58) (show partB2 (P.getD k ⟨#[]⟩) (58 : UInt8).toNat = [a, b] from hab)
        have hs2 : (P.getD k ⟨#[]⟩).size = a.size + b.size + 1 := by rw [size_list, hin, size_list a, size_list b]; simp; omega
        refine ⟨a, b, fun W => by rw [← hab]; exact split58 _ (by omega) W, fun W => ?_, fun W => ?_⟩
        · rw [hab]; exact l1Read_any a W (by omega)
        · rw [hab]; exact l1Read_any b W (by omega)
      rcases first_no (fun k => decide ((partB2 (P.getD k ⟨#[]⟩) 58).length = 2)) P.length with ha | ⟨m, h1, h2, h3⟩
      · refine base P.length false [] (Nat.le_refl _) (fun k hk => hok k hk (ha k hk)) ?_
        by_cases hg : goodT ((List.range P.length).map (fun k => (readT ((partB2 (P.getD k ⟨#[]⟩) 58).getD 0 ⟨#[]⟩).data.toList, readT ((partB2 (P.getD k ⟨#[]⟩) 58).getD 1 ⟨#[]⟩).data.toList)))
        · exact .inr (.inl ⟨rfl, ⟨rfl, rfl⟩, hg, fun e => h _ hg e.symm⟩)
        · exact .inr (.inr (.inl ⟨rfl, ⟨rfl, rfl⟩, hg⟩))
      · refine base m false [] (by omega) (fun k hk => hok k (by omega) (h3 k hk)) (.inr (.inr (.inr ⟨h1, ⟨rfl, rfl⟩, partB2 (P.getD m ⟨#[]⟩) 58, of_decide_eq_false h2, (part_pos _ _).1, split58 _ (by have := part_le hj m h1; omega)⟩)))
  · exact sParseThreads_long s w (by omega)

end Go.Proofs.YtbgcbokddldmkaaDoor
