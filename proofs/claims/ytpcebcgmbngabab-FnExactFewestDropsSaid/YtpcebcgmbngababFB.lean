/- Masks: the indices that one holds. -/
import Derived.Test.YtpcebcgmbngababFA
namespace Go.Proofs.Ytpcebcgmbngabab
open Go.RowKit
set_option linter.unusedVariables false

theorem info_intF : (Try.prog.info? 3).map (fun i => (i.zero, i.size, i.bytes)) = some (some (.int .i64 0), 1, 8) := by kernel_rfl

/-- The indices below k that a mask holds. -/
def heldL (m n : Nat) : Nat → List Int
  | 0 => []
  | k + 1 => if heldM m n k then heldL m n k ++ [(k : Int)] else heldL m n k

theorem heldL_length (m n : Nat) : ∀ k, (heldL m n k).length ≤ k
  | 0 => by simp [heldL]
  | k + 1 => by
    have := heldL_length m n k
    rw [heldL]
    split <;> simp <;> omega

set_option maxHeartbeats 1000000 in
theorem indicesDropped_any (m n : Nat) (w : World) (hm : m < 4096) (hn : n ≤ 12) :
    Calls Try.prog 76 #[.int .i64 m, .int .i64 n] w fun e w' => ∃ v, e = .returned v ∧ Ints w' w.heap.size 3 v (heldL m n n) ∧ Below w.heap.size w w' := by
  have HS := Lib.hid (fun k => show heldL m n (k + 1) = if heldM m n k then heldL m n k ++ [(k : Int)] else heldL m n k from rfl)
  have HL := Lib.hid (heldL_length m n)
  have H0 : heldL m n 0 = [] := rfl
  obtain ⟨F, hF⟩ : ∃ F, heldL m n = F := ⟨_, rfl⟩
  rw [hF] at HS HL H0 ⊢
  clear hF
  go_enter Try.func76, Try.ntmps76
  go_wp2
  go_loopw [5, 8] (fun u i wr => ∃ k : Nat, k ≤ n ∧ i = .int .i64 k ∧ Ints wr w.heap.size 3 u (F k) ∧ Below w.heap.size w wr) (fun _ i _ => n - (intOf i).toNat)
  case atStart => exact ⟨0, by omega, rfl, by rw [H0]; exact World.ownsRow_nil _ _ _ _, Below.refl _ _⟩
  case round =>
    obtain ⟨k, hk, rfl, hI, hB⟩ := hrel
    have HI := Lib.hid hI
    have hz := hB.size
    have hl := HL.out k
    clear hI
    by_cases hlt : k < n
    · have hs := HS.out k
      have hd := fun W => isDropped_any m n k W hm hlt hn
      cases hh : heldM m n k with
      | true =>
        rw [hh] at hs hd
        rw [if_pos rfl] at hs
        have HK := Lib.hid hs
        have HD := Lib.hid hd
        clear hs hd hh
        go_wp2_with (first
          | (go_at_call 106; (with_reducible refine (HD.out _).mono ?_); rintro e w1 ⟨rfl, rfl⟩)
          | (at_builtin; refine wpList_append_int rfl _ _ 39 rfl (w.heap.size) 3 Try.underlying39 info_intF _ _ rfl HI.out (k : Int) rfl (by omega) (by omega) ?_; intro v' w' hI' hg'; have hB' := HI.out.below hB hz hg'; rw [← HK.out] at hI'; have HI' := Lib.hid hI'; clear hI'))
        go_roundw
        case rel => exact ⟨k + 1, by omega, by go_num, HI'.out, hB'⟩
        case measure => simp [intOf]; omega
      | false =>
        rw [hh] at hs hd
        rw [if_neg (by decide)] at hs
        have HK := Lib.hid hs
        have HD := Lib.hid hd
        clear hs hd hh
        go_wp2_with (first
          | (go_at_call 106; (with_reducible refine (HD.out _).mono ?_); rintro e w1 ⟨rfl, rfl⟩))
        go_roundw
        case rel => exact ⟨k + 1, by omega, by go_num, by rw [HK.out]; exact HI.out, hB⟩
        case measure => simp [intOf]; omega
    · obtain rfl : k = n := by omega
      go_wp2
      go_ret
      exact ⟨_, rfl, HI.out, hB⟩

end Go.Proofs.Ytpcebcgmbngabab
