/- Texts parted at a byte: the model's reader. -/
import Derived.Test.YtbgcbokddldmkaaDoorSL
import Derived.Test.YtbgcbokddldmkaaDoorW1
namespace Go.Proofs.YtbgcbokddldmkaaDoor
open Go.RowKit
set_option linter.unusedVariables false

theorem info_str : (Tryd.prog.info? 9).map (fun i => (i.zero, i.size, i.bytes)) = some (some (.string ⟨#[]⟩), 1, 16) := by kernel_rfl

set_option maxHeartbeats 2000000 in
theorem l1Split_any (t : ByteArray) (c : Nat) (w : World) (ht : t.size ≤ 1048576) (hc : c < 256) :
    Calls Tryd.prog 83 #[.string t, .int .u8 c] w fun e w' => ∃ v, e = .returned v ∧ Strs w' w.heap.size 9 v (partB2 t c) ∧ Below w.heap.size w w' := by
  have HP := Lib.hid (show partB2 t c = (partTo t c t.size).1 ++ [t.extract (partTo t c t.size).2 t.size] from rfl)
  have HS := Lib.hid (fun k => show partTo t c (k + 1) = if (t.data.toList.getD k 0).toNat = c then ((partTo t c k).1 ++ [t.extract (partTo t c k).2 k], k + 1) else partTo t c k from rfl)
  have HL := Lib.hid (fun k => partTo_le t c k)
  have HG := Lib.hid (fun (k : Nat) (h : k < t.size) => show t.data.toList.getD k 0 = t[k] by
    have h1 : k < t.data.toList.length := by rw [Array.length_toList]; exact h
    rw [List.getD, List.getElem?_eq_getElem h1]
    rfl)
  have H0 : partTo t c 0 = ([], 0) := rfl
  obtain ⟨F, hF⟩ : ∃ F, partTo t c = F := ⟨_, rfl⟩
  obtain ⟨R, hR⟩ : ∃ R, partB2 t c = R := ⟨_, rfl⟩
  rw [hF] at HP HS HL H0
  rw [hR] at HP ⊢
  clear hF hR
  go_enter Tryd.func83, Tryd.ntmps83
  go_wp2
  go_loopw [5, 6, 7] (fun u f i wr => ∃ k : Nat, k ≤ t.size ∧ i = .int .i64 k ∧ f = .int .i64 (F k).2 ∧ Strs wr w.heap.size 9 u (F k).1 ∧ Below w.heap.size w wr) (fun _ _ i _ => t.size - (intOf i).toNat)
  case atStart => exact ⟨0, by omega, rfl, by rw [H0]; rfl, by rw [H0]; exact World.ownsRow_nil _ _ _ _, Below.refl _ _⟩
  case round =>
    obtain ⟨k, hk, rfl, rfl, hI, hB⟩ := hrel
    have HI := Lib.hid hI
    have hz := hB.size
    clear hI
    by_cases hlt : k < t.size
    · have hs := HS.out k
      obtain ⟨hl1, hl2⟩ := HL.out k
      have hg := HG.out k hlt
      obtain ⟨d, hd⟩ : ∃ d, (t[k]'hlt).toNat = d := ⟨_, rfl⟩
      have d256 : d < 256 := by rw [← hd]; exact UInt8.toNat_lt _
      rw [hg, hd] at hs
      clear hg
      obtain ⟨f, hf⟩ : ∃ f, (F k).2 = f := ⟨_, rfl⟩
      rw [hf] at hs hl1 ⊢
      have HF := Lib.hid hf
      clear hf
      by_cases he : d = c
      · rw [if_pos he] at hs
        have HK := Lib.hid hs
        subst he
        clear hs
        go_wp2_with (first
          | (at_builtin; refine wpList_append_str rfl _ _ 91 rfl (w.heap.size) 9 Tryd.underlying91 info_str _ _ rfl HI.out (t.extract f k) rfl (by omega) (by omega) ?_; intro v' w' hI' hg'; have hB' := HI.out.below hB hz hg'; have HI' := Lib.hid hI'; clear hI'))
        go_roundw
        case rel => exact ⟨k + 1, by omega, by go_num, by rw [HK.out]; go_num, by rw [HK.out]; exact HI'.out, hB'⟩
        case measure => simp [intOf]; omega
      · rw [if_neg he] at hs
        have HK := Lib.hid hs
        clear hs
        go_wp2
        go_roundw
        case rel => exact ⟨k + 1, by omega, by go_num, by rw [HK.out, HF.out], by rw [HK.out]; exact HI.out, hB⟩
        case measure => simp [intOf]; omega
    · obtain rfl : k = t.size := by omega
      obtain ⟨hl1, hl2⟩ := HL.out t.size
      obtain ⟨f, hf⟩ : ∃ f, (F t.size).2 = f := ⟨_, rfl⟩
      rw [hf] at hl1 HP ⊢
      clear hf
      go_wp2_with (first
        | (at_builtin; refine wpList_append_str rfl _ _ 91 rfl (w.heap.size) 9 Tryd.underlying91 info_str _ _ rfl HI.out (t.extract f t.size) rfl (by omega) (by omega) ?_; intro v' w' hI' hg'; have hB' := HI.out.below hB hz hg'; rw [← HP.out] at hI'; have HI' := Lib.hid hI'; clear hI'))
      go_ret
      exact ⟨v', rfl, HI'.out, hB'⟩

end Go.Proofs.YtbgcbokddldmkaaDoor
