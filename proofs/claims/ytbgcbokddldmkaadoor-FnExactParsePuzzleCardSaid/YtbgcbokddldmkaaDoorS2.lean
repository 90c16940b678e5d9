/- The text of a star. -/
import Derived.Test.YtbgcbokddldmkaaDoorS1
import Derived.Test.YtbgcbokddldmkaaDoorBA
import Derived.Deep.RegionHeld3
namespace Go.Proofs.YtbgcbokddldmkaaDoor
open Go.RowKit

theorem decB_size (n : Nat) : (decB n).size ≤ 2 := by
  unfold decB
  split <;> simp [ByteArray.size]

theorem l1Num_any (n : Int) (w : World) (h1 : 0 ≤ n) (h3 : n < 100) :
    Calls Tryd.prog 106 #[.int .i64 n] w fun e w' => e = .returned (.string (decB n.toNat)) ∧ Below w.heap.size w w' := by
  obtain ⟨m, rfl⟩ := Int.eq_ofNat_of_zero_le h1
  rw [Int.toNat_natCast]
  by_cases h : m < 10
  · refine (l1Num_lt m w h).mono fun e w' ⟨he, hw⟩ => ⟨?_, by rw [hw]; go_grown⟩
    rw [he]
    unfold decB
    rw [if_pos h, show (48 + (m : Int)).toNat = 48 + m by omega]
  · exact l1Num_ge m w (by omega) (by omega)

theorem itoa_i (n : Int) (w : World) (h1 : 0 ≤ n) (h3 : n < 100) :
    Calls Tryd.prog 107 #[.int .i64 n] w fun e w' => e = .returned (.string (decB n.toNat)) ∧ w = w' := by
  obtain ⟨m, rfl⟩ := Int.eq_ofNat_of_zero_le h1
  rw [Int.toNat_natCast]
  exact itoa_any m w (by omega)

/-- The text of a star. -/
def starB (p s : Int) : ByteArray := ⟨#[123]⟩ ++ decB p.toNat ++ ⟨#[47]⟩ ++ decB s.toNat ++ ⟨#[125]⟩

theorem strAdd (a b : ByteArray) (h : a.size + b.size ≤ 1000000000) : Op.stringOp .add a b = pure (.string (a ++ b)) := by
  have e : ¬ (((a.size + b.size : Nat) : Int) > IntKind.i64.max) := by
    have : IntKind.i64.max = 9223372036854775807 := by decide +kernel
    omega
  unfold Op.stringOp
  simp only [if_neg e]

end Go.Proofs.YtbgcbokddldmkaaDoor
