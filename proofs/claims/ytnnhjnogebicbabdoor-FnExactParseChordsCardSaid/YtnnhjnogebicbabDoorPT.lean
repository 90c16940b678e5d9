/- Stars that texts tell: the program's reader, by the text. -/
import Derived.Test.YtnnhjnogebicbabDoorPS
namespace Go.Proofs.YtnnhjnogebicbabDoor
open Go.RowKit
set_option linter.unusedVariables false

def GoodS (p s : Nat) : Prop := 3 ≤ p ∧ p ≤ 60 ∧ 1 ≤ s ∧ s < p

theorem data_arr (l : List UInt8) : (⟨l.toArray⟩ : ByteArray).data.toList = l := by simp

theorem iParseStar_yes (t : ByteArray) (p s : Nat) (w : World) (ht : t.size ≤ 1048576) (hn : NumW w) (hg : GoodS p s) (h : t.data.toList = starL p s) :
    Calls Tryd.prog 6 #[.string t] w fun e w' => e = .returned (.tuple #[.agg #[.int .i64 p, .int .i64 s], .bool true]) ∧ Below w.heap.size w w' := by
  have C := cutsT t ht
  have e : starL p s = 123 :: ((dec2 p ++ 47 :: dec2 s) ++ [125]) := by simp [starL]
  have hp : p < 100 := by have := hg.2.1; omega
  have hs : s < 100 := by have := hg.2.2.2; omega
  rw [h, e, (pre_at 123 _).1, (pre_at 123 _).2, (suf_at 125 _).1, (suf_at 125 _).2, cut_at (dec2_not47 p hp)] at C
  exact iParse_star t _ _ _ _ p s w C hn (by rw [data_arr]; exact plainT_dec2 p hp) (by rw [data_arr]; exact plainT_dec2 s hs) hg

theorem iParseStar_no (t : ByteArray) (w : World) (ht : t.size ≤ 1048576) (hn : NumW w) (h : ∀ p s, GoodS p s → t.data.toList ≠ starL p s) :
    Calls Tryd.prog 6 #[.string t] w fun e w' => e = .returned (.tuple #[.agg #[.int .i64 0, .int .i64 0], .bool false]) ∧ Below w.heap.size w w' := by
  have C := cutsT t ht
  cases ho : (Lib.hasPrefix t.data.toList [123] && Lib.hasSuffix (Lib.trimPrefix t.data.toList [123]) [125] && (Lib.cut (Lib.trimSuffix (Lib.trimPrefix t.data.toList [123]) [125]) [47]).2.2) with
  | false => exact iParse_cut t _ _ _ _ _ _ _ w C hn ho
  | true =>
    rw [Bool.and_eq_true, Bool.and_eq_true] at ho
    obtain ⟨⟨o1, o2⟩, o3⟩ := ho
    have h1 := pre_parts o1
    have h2 := suf_parts o2
    have h3 := cut_parts o3
    rw [o1, o2, o3] at C
    generalize Lib.trimPrefix t.data.toList [123] = r1 at C h1 h2 h3
    generalize Lib.trimSuffix r1 [125] = r2 at C h2 h3
    generalize (Lib.cut r2 [47]).1 = a at C h3
    generalize (Lib.cut r2 [47]).2.1 = b at C h3
    cases hl : plainT a with
    | none =>
      cases hr : plainT b with
      | none => exact iParse_none_none t _ _ _ _ w C hn (by rw [data_arr]; exact hl) (by rw [data_arr]; exact hr)
      | some s => exact iParse_none_yes t _ _ _ _ s w C hn (by rw [data_arr]; exact hl) (by rw [data_arr]; exact hr)
    | some p =>
      cases hr : plainT b with
      | none => exact iParse_yes_none t _ _ _ _ p w C hn (by rw [data_arr]; exact hl) (by rw [data_arr]; exact hr)
      | some s =>
        refine iParse_bad t _ _ _ _ p s w C hn (by rw [data_arr]; exact hl) (by rw [data_arr]; exact hr) fun hg => ?_
        have hp : p < 100 := by have := hg.2.1; omega
        have hs : s < 100 := by have := hg.2.2.2; omega
        refine h p s hg ?_
        rw [h1, h2, h3, plainT_some hl hp, plainT_some hr hs]
        simp [starL]

end Go.Proofs.YtnnhjnogebicbabDoor
