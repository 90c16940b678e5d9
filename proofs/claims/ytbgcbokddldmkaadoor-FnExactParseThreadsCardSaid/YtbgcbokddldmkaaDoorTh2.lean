/- Threads that texts tell: the program's reader. -/
import Derived.Test.YtbgcbokddldmkaaDoorLB
import Derived.Test.YtbgcbokddldmkaaDoorUGi
import Derived.Test.YtbgcbokddldmkaaDoorUK
namespace Go.Proofs.YtbgcbokddldmkaaDoor
open Go.RowKit
set_option linter.unusedVariables false

set_option maxHeartbeats 4000000 in
set_option maxRecDepth 100000 in
theorem iParseThreads_of (s : ByteArray) (R0 : List (Int × Int)) (told : Bool) (w : World) (hn : NumW w) (hR : R0.length ≤ 1048577)
    (hp : ∀ W, NumW W → Calls Tryd.prog 87 #[.string s, .string ⟨#[58]⟩] W (Gives (PairsIn 108) W R0 told)) (b : Bool) (R : List (Int × Int))
    (hend : (told = true ∧ (b = true ∧ R = R0) ∧ goodT R0) ∨ (told = true ∧ (b = false ∧ R = []) ∧ ¬ goodT R0) ∨ (told = false ∧ (b = false ∧ R = []))) :
    Calls Tryd.prog 46 #[.string s] w (Gives (PairsIn 110) w R b) := by
  obtain ⟨n, hnn⟩ : ∃ n, n = R0.length := ⟨_, rfl⟩
  have HP : Hid (∀ W, NumW W → Calls Tryd.prog 87 #[.string s, .string ⟨#[58]⟩] W (fun e w' => ∃ (a0 : Option Addr) (cap g : Nat), e = .returned (.tuple #[.slice a0 n cap, .bool told]) ∧ (0 < n → a0 = some ⟨g, 0, none⟩) ∧ n ≤ maxLen ∧ (∀ i, i < n → w'.cell? ⟨g, i * 2, none⟩ = some (.int .i64 (R0.getD i (0, 0)).1)) ∧ (∀ i, i < n → w'.cell? ⟨g, i * 2 + 1, none⟩ = some (.int .i64 (R0.getD i (0, 0)).2)) ∧ Below W.heap.size W w')) := Lib.hid fun W hW => (hp W hW).mono fun e w' ⟨v, he, hI, hb⟩ => by
    obtain ⟨a0, cap, g, hv, h1, h2, h3, h4⟩ := hI.pairs.view
    rw [hnn]
    exact ⟨a0, cap, g, by rw [he, hv], h1, h2, h3, h4, hb⟩
  have HE := Lib.hid hend
  have HN := Lib.hid hn
  have HX := Lib.hid (range_getD R0 (0, 0))
  rw [← hnn] at HX hR
  have hmk := make_pairs (P := Tryd.prog) Tryd.underlying64 info_thread n (by omega)
  clear hp hend hn hnn
  go_enter Tryd.func46, Tryd.ntmps46
  go_wp2_with (first | (go_at_call 87; (refine (HP.out _ HN.out).mono ?_); rintro e w1 ⟨a0, cap, g, rfl, ha, hmm, hx1, hy1, hb1⟩; (unfold maxLen at hmm); have HA := Lib.hid ha; have X := Lib.hid hx1; have Y := Lib.hid hy1; have hz1 := hb1.size; clear ha hx1 hy1))
  clear hmk
  go_loopw [19] (fun i wr => ∃ k : Nat, k ≤ n ∧ i = .int .i64 k ∧ Pairs wr w1.heap.size 110 (.slice (some ⟨w1.heap.size, 0, none⟩) n n) (fillG (fun i => R0.getD i (0, 0)) (0, 0) n k) ∧ Below w1.heap.size w1 wr ∧ w1.heap.size < wr.heap.size) (fun i _ => n - (intOf i).toNat)
  case atStart => exact ⟨0, by omega, rfl, by rw [fillG_zero]; exact Pairs.made w1 w1.heap.size _ n (Nat.le_refl _) (by omega), (Below.refl _ _).alloc (Nat.le_refl _) _, by simp⟩
  case round =>
    obtain ⟨k, hk, rfl, hI, hB, hz⟩ := hrel
    by_cases hlt : k < n
    · obtain rfl := HA.out (by omega)
      obtain ⟨x, y, hxy⟩ : ∃ x y, R0.getD k (0, 0) = (x, y) := ⟨_, _, rfl⟩
      have cx := cellB hB (X.out k hlt)
      have cy := cellB hB (Y.out k hlt)
      rw [hxy] at cx cy
      simp only at cx cy
      have hfs := fillG_set (fun i => R0.getD i (0, 0)) (0, 0) n k hlt
      simp only [hxy] at hfs
      have HFS := Lib.hid hfs
      have HST := Lib.hid (hI.stored k (by rw [fillG_length _ _ _ _ hk]; omega) x y)
      have d0 := hI.cell0 k (by rw [fillG_length _ _ _ _ hk]; omega)
      have d1 := hI.cell1 k (by rw [fillG_length _ _ _ _ hk]; omega)
      have f0 := hI.frozenAt (k * 2)
      have f1 := hI.frozenAt (k * 2 + 1)
      have ne1 : ¬ w1.heap.size = wr.heap.size := by omega
      have ne2 : ¬ wr.heap.size = w1.heap.size := by omega
      have HB3 := Lib.hid (hI.below hB (by omega) HST.out.2)
      generalize ((fillG (fun i => R0.getD i (0, 0)) (0, 0) n k).getD k (0, 0)).1 = o1 at d0
      generalize ((fillG (fun i => R0.getD i (0, 0)) (0, 0) n k).getD k (0, 0)).2 = o2 at d1
      clear hxy hfs hI hB
      go_wp2
      go_roundw
      case rel => exact ⟨k + 1, by omega, by go_num, by rw [← HFS.out]; exact HST.out.1.later ((Below.refl _ _).alloc (Nat.le_refl _) _), HB3.out.alloc (by simp; omega) _, by simp; omega⟩
      case measure => simp [intOf]; omega
    · obtain rfl : k = n := by omega
      rw [fillG_all, HX.out] at hI
      have HI := Lib.hid hI
      clear hI
      have hzz := hB.size
      have HI9 : Hid (PairsIn 110 wr w1.heap.size wr.heap.size (.slice (some ⟨w1.heap.size, 0, none⟩) k k) R0) := Lib.hid HI.out.inn
      rcases HE.out with ⟨rfl, ⟨rfl, rfl⟩, hg⟩ | ⟨rfl, ⟨rfl, rfl⟩, hg⟩ | ⟨rfl, rfl, rfl⟩
      · have HG := Lib.hid hg
        clear hg
        go_wp2_with (first | (go_at_call 92; (with_reducible refine (AreThreads_yes _ _ _ _ _ HI9.out HG.out).mono ?_); rintro e w2 ⟨rfl, hb2⟩))
        go_ret2
        have h2 := HI.out.later hb2
        exact ⟨_, rfl, ⟨h2.mono (by omega), fun j hj => (h2.own j hj).2⟩, hb1.trans ((hB.trans (hb2.mono hzz)).mono (by omega))⟩
      · have HG := Lib.hid hg
        clear hg
        go_wp2_with (first | (go_at_call 92; (with_reducible refine (AreThreads_no _ _ _ _ _ HI9.out HG.out).mono ?_); rintro e w2 ⟨rfl, hb2⟩))
        go_ret2
        exact ⟨_, rfl, PairsIn.nil _ _ _ _, hb1.trans ((hB.trans (hb2.mono hzz)).mono (by omega))⟩
      · go_wp2
        go_ret2
        exact ⟨_, rfl, PairsIn.nil _ _ _ _, hb1.trans (hB.mono (by omega))⟩

set_option maxHeartbeats 1000000 in
theorem iParseThreads_loop (s : ByteArray) (P : List ByteArray) (f : Nat → Int × Int) (g : Nat → Bool) (w : World) (hn : NumW w) (hP : P.length ≤ 1048577) (hsp : ∀ W, NumW W → Calls Tryd.prog 76 #[.string s, .string ⟨#[44]⟩] W fun e w' => e = .returned (.slice (some ⟨W.heap.size, 0, none⟩) P.length P.length) ∧ w' = W.alloc (.cells (P.map Value.string).toArray 9)) (hr : ∀ k, k < P.length → ∀ W, NumW W → Calls Tryd.prog 81 #[.string (P.getD k ⟨#[]⟩), .string ⟨#[58]⟩] W fun e w' => e = .returned (.tuple #[.int .i64 (f k).1, .int .i64 (f k).2, .bool (g k)]) ∧ Below W.heap.size W w')
    (m : Nat) (b : Bool) (R : List (Int × Int)) (hm : m ≤ P.length) (hok : ∀ k, k < m → g k = true) (hend : (m = P.length ∧ (b = true ∧ R = (List.range m).map f) ∧ goodT ((List.range m).map f)) ∨ (m = P.length ∧ (b = false ∧ R = []) ∧ ¬ goodT ((List.range m).map f)) ∨ (m < P.length ∧ (b = false ∧ R = []) ∧ g m = false)) :
    Calls Tryd.prog 46 #[.string s] w (Gives (PairsIn 110) w R b) := by
  rcases hend with ⟨h1, h2, h3⟩ | ⟨h1, h2, h3⟩ | ⟨h1, h2, h3⟩
  · exact iParseThreads_of s ((List.range m).map f) true w hn (by simp; omega) (fun W hW => numberPairs_loop s _ P f g W hW hP hsp hr m true _ hm hok (.inl ⟨h1, rfl, rfl⟩)) b R (.inl ⟨rfl, h2, h3⟩)
  · exact iParseThreads_of s ((List.range m).map f) true w hn (by simp; omega) (fun W hW => numberPairs_loop s _ P f g W hW hP hsp hr m true _ hm hok (.inl ⟨h1, rfl, rfl⟩)) b R (.inr (.inl ⟨rfl, h2, h3⟩))
  · exact iParseThreads_of s [] false w hn (by simp) (fun W hW => numberPairs_loop s _ P f g W hW hP hsp hr m false _ hm hok (.inr ⟨h1, ⟨rfl, rfl⟩, h3⟩)) b R (.inr (.inr ⟨rfl, h2⟩))

end Go.Proofs.YtbgcbokddldmkaaDoor
