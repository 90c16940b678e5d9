/- Threads that texts tell: the model's reader. -/
import Derived.Test.YtbgcbokddldmkaaDoorSM
import Derived.Test.YtbgcbokddldmkaaDoorSR
import Derived.Test.YtbgcbokddldmkaaDoorUM
import Derived.Deep.RegionHeld3
import Derived.Deep.AppendLies
namespace Go.Proofs.YtbgcbokddldmkaaDoor
open Go.RowKit
set_option linter.unusedVariables false

set_option maxHeartbeats 4000000 in
set_option maxRecDepth 100000 in
theorem sParseThreads_loop (s : ByteArray) (P : List ByteArray) (f : Nat → Int × Int) (w : World) (h240 : (s.size : Int) ≤ 240) (hP : P.length ≤ 241) (hpos : 0 < P.length) (hsp : ∀ W, Calls Tryd.prog 83 #[.string s, .int .u8 44] W fun e w' => ∃ v, e = .returned v ∧ Strs w' W.heap.size 9 v P ∧ Below W.heap.size W w') (m : Nat) (b : Bool) (R : List (Int × Int)) (hm : m ≤ P.length) (hok : ∀ k, k < m → ∃ a b : ByteArray, (∀ W, Calls Tryd.prog 83 #[.string (P.getD k ⟨#[]⟩), .int .u8 58] W fun e w' => ∃ v, e = .returned v ∧ Strs w' W.heap.size 9 v [a, b] ∧ Below W.heap.size W w') ∧ (∀ W, Calls Tryd.prog 84 #[.string a] W fun e w' => e = .returned (.int .i64 (f k).1) ∧ W = w') ∧ (∀ W, Calls Tryd.prog 84 #[.string b] W fun e w' => e = .returned (.int .i64 (f k).2) ∧ W = w'))
    (hend : (m = P.length ∧ (b = true ∧ R = ((List.range m).map f)) ∧ goodT ((List.range m).map f) ∧ textB ((List.range m).map f) (((List.range m).map f)).length = s) ∨ (m = P.length ∧ (b = false ∧ R = []) ∧ goodT ((List.range m).map f) ∧ textB ((List.range m).map f) (((List.range m).map f)).length ≠ s) ∨ (m = P.length ∧ (b = false ∧ R = []) ∧ ¬ goodT ((List.range m).map f)) ∨ (m < P.length ∧ (b = false ∧ R = []) ∧ ∃ xs : List ByteArray, xs.length ≠ 2 ∧ 0 < xs.length ∧ (∀ W, Calls Tryd.prog 83 #[.string (P.getD m ⟨#[]⟩), .int .u8 58] W fun e w' => ∃ v, e = .returned v ∧ Strs w' W.heap.size 9 v xs ∧ Below W.heap.size W w'))) :
    Calls Tryd.prog 45 #[.string s] w (Gives (PairsIn 110) w R b) := by
  obtain ⟨i0, hi0, hz0', hz1', hz2'⟩ := info_parts info_thread
  have HS := Lib.hid hsp
  have HOK := Lib.hid hok
  have HE := Lib.hid hend
  have HPOS := Lib.hid hpos
  clear hsp hok hend hpos
  go_enter Tryd.func45, Tryd.ntmps45
  go_wp2_with (first | (go_at_call 83; (refine (HS.out _).mono ?_); rintro e w1 ⟨v, rfl, hst, hb1⟩; obtain ⟨cap, g1, rfl, hmax, hg1, hg2, hcc, hff⟩ := hst.view HPOS.out; have HV := Lib.hid hcc; have hz1 := hb1.size; clear hcc hff hst hmax))
  go_loopw [4, 14] (fun u i wr => ∃ k : Nat, k ≤ m ∧ i = .int .i64 k ∧ Pairs wr w1.heap.size 110 u ((List.range k).map f) ∧ Below w1.heap.size w1 wr) (fun _ i _ => m - (intOf i).toNat)
  case atStart => exact ⟨0, by omega, rfl, World.ownsRow_nil _ _ _ _, Below.refl _ _⟩
  case round =>
    obtain ⟨k, hk, rfl, hI, hB⟩ := hrel
    have HI := Lib.hid hI
    have hz := hB.size
    have hlr : ((List.range k).map f).length = k := by simp
    clear hI
    by_cases hlt : k < m
    · have hlt2 : k < P.length := by omega
      have hcell := cellB hB (HV.out k hlt2)
      obtain ⟨a, b', hE1, hra, hrb⟩ := HOK.out k hlt
      have HE1 := Lib.hid hE1
      have HSU := Lib.hid (show (List.range (k + 1)).map f = (List.range k).map f ++ [f k] by simp [List.range_succ])
      obtain ⟨t, ht⟩ : ∃ t, P.getD k ⟨#[]⟩ = t := ⟨_, rfl⟩
      obtain ⟨x, hx⟩ : ∃ x, (f k).1 = x := ⟨_, rfl⟩
      obtain ⟨y, hy⟩ : ∃ y, (f k).2 = y := ⟨_, rfl⟩
      have hfk : f k = (x, y) := by rw [← hx, ← hy]
      rw [ht] at hcell HE1
      rw [hx] at hra
      rw [hy] at hrb
      rw [hfk] at HSU
      have HA := Lib.hid hra
      have HBB := Lib.hid hrb
      clear ht hx hy hfk hra hrb hE1
      go_wp2_with (first
        | (go_at_call 83; (refine (HE1.out _).mono ?_); rintro e w3 ⟨v3, rfl, hst3, hb3⟩; obtain ⟨cap3, ge, rfl, hmax3, hge1, hge2, hcc3, hff3⟩ := hst3.view (by simp); (have x0 : w3.cell? ⟨ge, 0, none⟩ = some (.string a) := hcc3 0 (by simp)); (have x1 : w3.cell? ⟨ge, 1, none⟩ = some (.string b') := hcc3 1 (by simp)); have HI3 := Lib.hid (HI.out.later hb3); have hz3 := hb3.size; (have hB3 : Below w1.heap.size w1 w3 := hB.trans (hb3.mono hz)); (have HOW := Lib.hid (fun j hj => (HI.out.own j hj).2)); clear hb3 hst3 hcc3 hff3 hmax3))
      have hu : ∀ j, u4.ownBlock = some j → j < ge := fun j hj => by have := HOW.out j hj; omega
      have hf0 : ∀ {g : Nat}, u4.ownBlock = some g → g ≠ ge := fun h e => by have := hu _ h; omega
      have hne : u4.ownBlock ≠ some ge := fun h => hf0 h rfl
      clear hf0
      go_region_held3 (fun w' => w'.cell? ⟨ge, 0, none⟩ = some (.string a) ∧ w'.cell? ⟨ge, 1, none⟩ = some (.string b'))
        (first
          | go_keep
          | (go_split_ands
             refine ⟨?_, ?_⟩
             · (rw [hgrow.cell_far _ (by simp; omega) (Ne.symm hne)]; assumption)
             · (rw [hgrow.cell_far _ (by simp; omega) (Ne.symm hne)]; assumption)))
        (first
          | (go_at_call 84; (with_reducible refine (HA.out _).mono ?_); rintro e wa ⟨rfl, rfl⟩)
          | (go_at_call 84; (with_reducible refine (HBB.out _).mono ?_); rintro e wa ⟨rfl, rfl⟩)
          | ((refine step_append_lies _ (by rfl) _ _ _ (by rfl) w1.heap.size 110 i0 _ 2 16 Tryd.underlying64 hi0 hz0' hz1' hz2' rfl (by omega) u4 _ _ (by rfl) ((HI3.out.alloc _).drew) ⟨w3.heap.size, 0, none⟩ 1 1 [.int .i64 x, .int .i64 y] (by rfl) (by rfl) (World.news_of_block (cs := #[.int .i64 x, .int .i64 y]) (t := 110) (fr := (0, 0)) (heap_alloc_new w3 _)) (by simp [Value.oneCell']) (by omega) (by unfold maxLen; omega) (by omega) (by simp; omega) (w3.heap.size + 1) (by simp) ?_); intro gg cap4 w4 hown4 hgrow hat hlt4))
      go_wp2
      go_roundw
      case rel =>
        refine ⟨k + 1, by omega, by go_num, ?_, ?_⟩
        · rw [HSU.out]
          have e1 : ((List.range k).map f ++ [(x, y)]).length = ((List.range k).map f).length + 1 := by simp
          unfold Pairs
          rw [hlr] at hown4
          rw [e1, hlr, flatP_append, List.map_append]
          exact hown4
        · exact Below.grown (hB3.trans ((show Below w3.heap.size w3 (w3.alloc (.cells #[.int .i64 x, .int .i64 y] 110)).drew from by go_grown).mono (by omega))) hgrow (by simp; omega) fun j hj => (HI3.out.own j hj).1
      case measure => simp [intOf]; omega
    · obtain rfl : k = m := by omega
      rcases HE.out with ⟨rfl, ⟨rfl, rfl⟩, hg, hts⟩ | ⟨rfl, ⟨rfl, rfl⟩, hg, hts⟩ | ⟨rfl, ⟨rfl, rfl⟩, hg⟩ | ⟨hlt2, ⟨rfl, rfl⟩, xs, hx2, hx0, hE1⟩
      · have HA := Lib.hid (sgGood_yes _ ((List.range P.length).map f) w1.heap.size wr.heap.size wr ⟨HI.out, fun j hj => (HI.out.own j hj).2⟩ hg)
        have HT := Lib.hid (fun W v hI => sgText_any v ((List.range P.length).map f) (goodT_small hg) w1.heap.size wr.heap.size W hI hg.1.2 (goodT_at hg))
        rw [hts] at HT
        clear hg hts
        go_wp2_with (first | (go_at_call 90; (with_reducible refine (HA.out).mono ?_); rintro e w2 ⟨rfl, hb2⟩) | (go_at_call 91; (refine (HT.out _ _ ⟨HI.out.later hb2, fun j hj => (HI.out.own j hj).2⟩).mono ?_); rintro e w5 ⟨rfl, hb5⟩))
        go_ret2
        have h2 := (HI.out.later hb2).later hb5
        exact ⟨_, rfl, ⟨h2.mono (by omega), fun j hj => (h2.own j hj).2⟩, hb1.trans ((hB.trans ((hb2.trans (hb5.mono hb2.size)).mono hz)).mono (by omega))⟩
      · have HA := Lib.hid (sgGood_yes _ ((List.range P.length).map f) w1.heap.size wr.heap.size wr ⟨HI.out, fun j hj => (HI.out.own j hj).2⟩ hg)
        have HT := Lib.hid (fun W v hI => sgText_any v ((List.range P.length).map f) (goodT_small hg) w1.heap.size wr.heap.size W hI hg.1.2 (goodT_at hg))
        obtain ⟨z, hz9⟩ : ∃ z, textB ((List.range P.length).map f) ((List.range P.length).map f).length = z := ⟨_, rfl⟩
        rw [hz9] at HT hts
        have hbt : (z.toList == s.toList) = false := beq_eq_false_iff_ne.2 fun e => hts (by
          rw [ByteArray.toList_eq, ByteArray.toList_eq] at e
          exact ByteArray.ext (Array.toList_inj.1 e))
        clear hg hz9
        go_wp2_with (first | (go_at_call 90; (with_reducible refine (HA.out).mono ?_); rintro e w2 ⟨rfl, hb2⟩) | (go_at_call 91; (refine (HT.out _ _ ⟨HI.out.later hb2, fun j hj => (HI.out.own j hj).2⟩).mono ?_); rintro e w5 ⟨rfl, hb5⟩))
        go_ret2
        exact ⟨_, rfl, ⟨World.ownsRow_nil _ _ _ _, fun j hj => by cases hj⟩, hb1.trans ((hB.trans ((hb2.trans (hb5.mono hb2.size)).mono hz)).mono (by omega))⟩
      · have HA := Lib.hid (sgGood_no _ ((List.range P.length).map f) w1.heap.size wr.heap.size wr ⟨HI.out, fun j hj => (HI.out.own j hj).2⟩ hg)
        clear hg
        go_wp2_with (first | (go_at_call 90; (with_reducible refine (HA.out).mono ?_); rintro e w2 ⟨rfl, hb2⟩))
        go_ret2
        exact ⟨_, rfl, ⟨World.ownsRow_nil _ _ _ _, fun j hj => by cases hj⟩, hb1.trans ((hB.trans (hb2.mono hz)).mono (by omega))⟩
      · have hcell := cellB hB (HV.out k hlt2)
        have HE1 := Lib.hid hE1
        have HX0 := Lib.hid hx0
        have hx3 : ¬ (xs.length : Int) = 2 := by omega
        obtain ⟨t, ht⟩ : ∃ t, P.getD k ⟨#[]⟩ = t := ⟨_, rfl⟩
        rw [ht] at hcell HE1
        clear ht hE1 hx0 hx2
        go_wp2_with (first
          | (go_at_call 83; (refine (HE1.out _).mono ?_); rintro e w3 ⟨v3, rfl, hst3, hb3⟩; obtain ⟨cap3, ge, rfl, hmax3, hge1, hge2, hcc3, hff3⟩ := hst3.view HX0.out; clear hcc3 hff3 hmax3 hst3))
        go_ret2
        exact ⟨_, rfl, ⟨World.ownsRow_nil _ _ _ _, fun j hj => by cases hj⟩, hb1.trans ((hB.trans (hb3.mono hz)).mono (by omega))⟩

theorem sParseThreads_long (s : ByteArray) (w : World) (h : 240 < (s.size : Int)) : Calls Tryd.prog 45 #[.string s] w (Gives (PairsIn 110) w [] false) := by
  go_enter Tryd.func45, Tryd.ntmps45
  go_wp2
  go_ret2
  exact ⟨_, rfl, ⟨World.ownsRow_nil _ _ _ _, fun j hj => by cases hj⟩, by go_grown⟩

end Go.Proofs.YtbgcbokddldmkaaDoor
