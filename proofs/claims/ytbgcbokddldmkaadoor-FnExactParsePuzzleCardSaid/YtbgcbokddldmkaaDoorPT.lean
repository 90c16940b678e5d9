/- Stars that texts tell: the program's reader, by the text. -/
import Derived.Test.YtbgcbokddldmkaaDoorPS
namespace Go.Proofs.YtbgcbokddldmkaaDoor
open Go.RowKit
set_option linter.unusedVariables false

def GoodS (p s : Nat) : Prop := 3 ≤ p ∧ p ≤ 60 ∧ 1 ≤ s ∧ s < p

theorem iParseStar_yes (t : ByteArray) (p s : Nat) (w : World) (ht : t.size ≤ 1048576) (hn : NumW w) (hg : GoodS p s) (h : t.data.toList = starL p s) :
    Calls Tryd.prog 38 #[.string t] w fun e w' => e = .returned (.tuple #[.agg #[.int .i64 p, .int .i64 s], .bool true]) ∧ Below w.heap.size w w' := by
  have C := cutsT t ht
  have e : starL p s = 123 :: ((dec2 p ++ 47 :: dec2 s) ++ [125]) := by simp [starL]
  have hp : p < 100 := by have := hg.2.1; omega
  have hs : s < 100 := by have := hg.2.2.2; omega
  unfold midT at C
  rw [h, e, (pre_at 123 _).1, (pre_at 123 _).2, (suf_at 125 _).1, (suf_at 125 _).2, readP_at (dec2_not47 p hp) (plainT_dec2 p hp) (plainT_dec2 s hs)] at C
  exact iParse_star t _ _ p s w C hn (by obtain ⟨g1, g2, g3, g4⟩ := hg; omega)

theorem iParseStar_no (t : ByteArray) (w : World) (ht : t.size ≤ 1048576) (hn : NumW w) (h : ∀ p s, GoodS p s → t.data.toList ≠ starL p s) :
    Calls Tryd.prog 38 #[.string t] w fun e w' => e = .returned (.tuple #[.agg #[.int .i64 0, .int .i64 0], .bool false]) ∧ Below w.heap.size w w' := by
  have C := cutsT t ht
  cases ho : (Lib.hasPrefix t.data.toList [123] && Lib.hasSuffix (Lib.trimPrefix t.data.toList [123]) [125] && (readP 47 (midT t.data.toList)).isSome) with
  | false => exact iParse_cut t _ _ _ _ _ _ _ w C hn ho
  | true =>
    rw [Bool.and_eq_true, Bool.and_eq_true] at ho
    obtain ⟨⟨o1, o2⟩, o3⟩ := ho
    have h1 := pre_parts o1
    have h2 := suf_parts o2
    rw [o1, o2, o3] at C
    obtain ⟨⟨p, s⟩, hps⟩ := Option.isSome_iff_exists.1 o3
    rw [hps] at C
    obtain ⟨x, y, h3, hl, hr⟩ := readP_some hps
    unfold midT at h3
    refine iParse_bad t _ _ p s w C hn fun hg => ?_
    have hg' : GoodS p s := by obtain ⟨g1, g2, g3, g4⟩ := hg; exact ⟨by omega, by omega, by omega, by omega⟩
    have hp : p < 100 := by have := hg'.2.1; omega
    have hs : s < 100 := by have := hg'.2.2.2; omega
    refine h p s hg' ?_
    rw [h1, h2, h3, plainT_some hl hp, plainT_some hr hs]
    simp [starL]

end Go.Proofs.YtbgcbokddldmkaaDoor
