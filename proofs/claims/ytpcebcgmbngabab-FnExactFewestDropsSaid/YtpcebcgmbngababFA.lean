/- Bits that are set: math/bits.OnesCount below 2^12; masks. -/
import Derived.Test.YtpcebcgmbngababB3
import Derived.Test.YtpcebcgmbngababProg
namespace Go.Proofs.Ytpcebcgmbngabab
open Go.RowKit
set_option linter.unusedVariables false

def ones1 (m : Int) : Int := IntKind.u64.wrap (bits BinOp.and IntKind.u64 (m / 2) 6148914691236517205 + bits BinOp.and IntKind.u64 m 6148914691236517205)
def ones2 (m : Int) : Int := IntKind.u64.wrap (bits BinOp.and IntKind.u64 (m / 4) 3689348814741910323 + bits BinOp.and IntKind.u64 m 3689348814741910323)
def ones3 (m : Int) : Int := bits BinOp.and IntKind.u64 (IntKind.u64.wrap (m / 16 + m)) 1085102592571150095
def ones4 (m : Int) : Int := IntKind.u64.wrap (m + m / 256)
def ones5 (m : Int) : Int := IntKind.u64.wrap (m + m / 65536)
def ones6 (m : Int) : Int := IntKind.u64.wrap (m + m / 4294967296)
def ones7 (m : Int) : Int := bits BinOp.and IntKind.i64 (wrap64 m) 127
def onesT (m : Int) : Int := ones7 (ones6 (ones5 (ones4 (ones3 (ones2 (ones1 m))))))

/-- The bits of a number, the highest first: as many as n. -/
def bitsL : Nat → Nat → List Bool
  | 0, _ => []
  | n + 1, m => decide (m / 2 ^ n % 2 = 1) :: bitsL n m

set_option maxRecDepth 100000 in
theorem onesT_count : ∀ m : Fin 4096, onesT m.1 = ((bitsL 12 m.1).count true : Nat) := by decide +kernel

set_option maxHeartbeats 400000 in
theorem ones64 (m : Nat) (w : World) (hm : m < 4096) :
    Calls Try.prog 105 #[.int .u64 m] w fun e w' => e = .returned (.int .i64 (onesT m)) ∧ w = w' := by
  go_enter Try.func105, Try.ntmps105
  go_wp2
  go_ret
  exact ⟨rfl, rfl⟩

theorem ones_any (m : Nat) (w : World) (hm : m < 4096) :
    Calls Try.prog 74 #[.int .u64 m] w fun e w' => e = .returned (.int .i64 ((bitsL 12 m).count true : Nat)) ∧ w = w' := by
  have h := onesT_count ⟨m, hm⟩
  simp only at h
  have h1 := fun W => ones64 m W hm
  rw [h] at h1
  have H1 := Lib.hid h1
  clear h h1
  go_enter Try.func74, Try.ntmps74
  go_wp2_with (first | (go_at_call 105; (refine (H1.out _).mono ?_); rintro e w1 ⟨rfl, rfl⟩))
  go_ret
  exact ⟨rfl, rfl⟩

set_option maxRecDepth 100000 in
theorem and_one : ∀ x : Fin 4096, bits BinOp.and IntKind.i64 ((x.1 : Nat) : Int) 1 = ((x.1 % 2 : Nat) : Int) := by decide +kernel

/-- Whether the mask holds index k of n. -/
def heldM (m n k : Nat) : Bool := decide (m / 2 ^ (n - 1 - k) % 2 = 1)

set_option maxHeartbeats 400000 in
theorem isDropped_any (m n k : Nat) (w : World) (hm : m < 4096) (hk : k < n) (hn : n ≤ 12) :
    Calls Try.prog 106 #[.int .i64 m, .int .i64 n, .int .i64 k] w fun e w' => e = .returned (.bool (heldM m n k)) ∧ w = w' := by
  have hle : m / 2 ^ (n - 1 - k) ≤ m := Nat.div_le_self _ _
  have ha := and_one ⟨m / 2 ^ (n - 1 - k), by omega⟩
  simp only at ha
  have hb : (bits BinOp.and IntKind.i64 ((m : Int) / 2 ^ (n - 1 - k)) 1 == 1) = heldM m n k := by
    have e : ((m : Int) / 2 ^ (n - 1 - k)) = ((m / 2 ^ (n - 1 - k) : Nat) : Int) := by norm_cast
    rw [e, ha]
    unfold heldM
    rcases Nat.mod_two_eq_zero_or_one (m / 2 ^ (n - 1 - k)) with h | h <;> rw [h] <;> rfl
  have HB := Lib.hid hb
  clear hb ha hle
  go_enter Try.func106, Try.ntmps106
  go_wp2
  go_ret
  exact ⟨by rw [← HB.out]; rfl, rfl⟩

end Go.Proofs.Ytpcebcgmbngabab
