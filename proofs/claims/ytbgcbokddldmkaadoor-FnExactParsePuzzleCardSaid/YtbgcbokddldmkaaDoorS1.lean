/- Numbers below 100 in decimal. -/
import Derived.Test.YtbgcbokddldmkaaDoorW1
import Derived.Deep.RegionWith
namespace Go.Proofs.YtbgcbokddldmkaaDoor
open Go.RowKit

/-- A number below 100 in decimal. -/
def decB (n : Nat) : ByteArray := if n < 10 then ⟨#[UInt8.ofNat (48 + n)]⟩ else ⟨#[UInt8.ofNat (48 + n / 10), UInt8.ofNat (48 + n % 10)]⟩

set_option maxRecDepth 100000 in
theorem one_digit : ∀ n : Fin 10, (⟨#[48, 49, 50, 51, 52, 53, 54, 55, 56, 57, 97, 98, 99, 100, 101, 102, 103, 104, 105, 106, 107, 108, 109, 110, 111, 112, 113, 114, 115, 116, 117, 118, 119, 120, 121, 122]⟩ : ByteArray).extract n.1 (n.1 + 1) = decB n.1 := by decide +kernel

set_option maxRecDepth 100000 in
theorem two_digits : ∀ n : Fin 90, (⟨#[48, 48, 48, 49, 48, 50, 48, 51, 48, 52, 48, 53, 48, 54, 48, 55, 48, 56, 48, 57, 49, 48, 49, 49, 49, 50, 49, 51, 49, 52, 49, 53, 49, 54, 49, 55, 49, 56, 49, 57, 50, 48, 50, 49, 50, 50, 50, 51, 50, 52, 50, 53, 50, 54, 50, 55, 50, 56, 50, 57, 51, 48, 51, 49, 51, 50, 51, 51, 51, 52, 51, 53, 51, 54, 51, 55, 51, 56, 51, 57, 52, 48, 52, 49, 52, 50, 52, 51, 52, 52, 52, 53, 52, 54, 52, 55, 52, 56, 52, 57, 53, 48, 53, 49, 53, 50, 53, 51, 53, 52, 53, 53, 53, 54, 53, 55, 53, 56, 53, 57, 54, 48, 54, 49, 54, 50, 54, 51, 54, 52, 54, 53, 54, 54, 54, 55, 54, 56, 54, 57, 55, 48, 55, 49, 55, 50, 55, 51, 55, 52, 55, 53, 55, 54, 55, 55, 55, 56, 55, 57, 56, 48, 56, 49, 56, 50, 56, 51, 56, 52, 56, 53, 56, 54, 56, 55, 56, 56, 56, 57, 57, 48, 57, 49, 57, 50, 57, 51, 57, 52, 57, 53, 57, 54, 57, 55, 57, 56, 57, 57]⟩ : ByteArray).extract ((n.1 + 10) * 2) ((n.1 + 10) * 2 + 2) = decB (n.1 + 10) := by decide +kernel

set_option maxHeartbeats 400000 in
theorem small_lt (n : Nat) (w : World) (h : n < 10) :
    Calls Tryd.prog 172 #[.int .i64 n] w fun e w' => e = .returned (.string (decB n)) ∧ w = w' := by
  go_enter Tryd.func172, Tryd.ntmps172
  go_wp2
  go_ret
  exact ⟨congrArg (fun b => Ending.returned (Value.string b)) (one_digit ⟨n, h⟩), rfl⟩

set_option maxRecDepth 100000 in
set_option maxHeartbeats 400000 in
theorem small_ge (n : Nat) (w : World) (h2 : n < 90) :
    Calls Tryd.prog 172 #[.int .i64 ((n + 10 : Nat) : Int)] w fun e w' => e = .returned (.string (decB (n + 10))) ∧ w = w' := by
  have e0 := two_digits ⟨n, h2⟩
  simp only at e0
  obtain ⟨m, hm⟩ : ∃ m, m = n + 10 := ⟨_, rfl⟩
  rw [← hm] at e0 ⊢
  have e1 := Lib.hid e0
  have hm1 : 10 ≤ m := by omega
  have hm2 : m < 100 := by omega
  clear hm h2 e0
  go_enter Tryd.func172, Tryd.ntmps172
  go_wp2
  go_ret
  exact ⟨congrArg (fun b => Ending.returned (Value.string b)) e1.out, rfl⟩

theorem small_any (n : Nat) (w : World) (h : n < 100) :
    Calls Tryd.prog 172 #[.int .i64 n] w fun e w' => e = .returned (.string (decB n)) ∧ w = w' := by
  by_cases h1 : n < 10
  · exact small_lt n w h1
  · have := small_ge (n - 10) w (by omega)
    rw [show n - 10 + 10 = n by omega] at this
    exact this

set_option maxHeartbeats 400000 in
theorem itoa_any (n : Nat) (w : World) (h2 : n < 100) :
    Calls Tryd.prog 107 #[.int .i64 n] w fun e w' => e = .returned (.string (decB n)) ∧ w = w' := by
  go_enter Tryd.func107, Tryd.ntmps107
  go_wp2_with (first | (go_at_call 172; (with_reducible refine (small_any _ _ h2).mono ?_); rintro e w1 ⟨rfl, rfl⟩) | go_in)
  go_ret
  exact ⟨rfl, rfl⟩

/-- 'string([]byte{x})'. -/
theorem one_byte {P : Program} (src e dst : TypeId) (hs : P.underlying src = some (.slice e)) (he : P.underlying e = some (.int .u8)) (hd : P.underlying dst = some .string) (x : Int) (W : World) (b : Nat) (hc : W.cell? ⟨b, 0, none⟩ = some (.int .u8 x)) :
    (convert src dst (.slice (some ⟨b, 0, none⟩) 1 1)).run P W = .ok (.string ⟨#[UInt8.ofNat x.toNat]⟩) W := by
  have h := run_convert_bytes_arg (P := P) W src e hs he b 0 1 1 [x] rfl (fun i hi => by
    obtain rfl : i = 0 := by omega
    exact hc) dst hd
  rw [h]
  rfl

set_option maxHeartbeats 400000 in
theorem l1Num_lt (n : Nat) (w : World) (h2 : n < 10) :
    Calls Tryd.prog 106 #[.int .i64 n] w fun e w' => e = .returned (.string ⟨#[UInt8.ofNat (48 + (n : Int)).toNat]⟩) ∧ w' = w.alloc (.cells #[.int .u8 (48 + (n : Int))] 5) := by
  have hcv := one_byte (P := Tryd.prog) 146 5 9 Tryd.underlying146 Tryd.underlying5 Tryd.underlying9 (48 + (n : Int))
  go_enter Tryd.func106, Tryd.ntmps106
  go_wp2
  go_ret
  exact ⟨rfl, rfl⟩

theorem l1Num_i (n : Int) (w : World) (h1 : 0 ≤ n) (h2 : n < 10) :
    Calls Tryd.prog 106 #[.int .i64 n] w fun e w' => e = .returned (.string ⟨#[UInt8.ofNat (48 + n).toNat]⟩) ∧ w' = w.alloc (.cells #[.int .u8 (48 + n)] 5) := by
  obtain ⟨m, rfl⟩ := Int.eq_ofNat_of_zero_le h1
  exact l1Num_lt m w (by omega)

set_option maxHeartbeats 400000 in
theorem l1Num_ge (n : Nat) (w : World) (h2 : 10 ≤ n) (h3 : n < 100) :
    Calls Tryd.prog 106 #[.int .i64 n] w fun e w' => e = .returned (.string (decB n)) ∧ Below w.heap.size w w' := by
  have hcv := one_byte (P := Tryd.prog) 146 5 9 Tryd.underlying146 Tryd.underlying5 Tryd.underlying9 (48 + (n : Int) % 10)
  have w1 : IntKind.i64.wrap (48 + (n : Int) % 10) = 48 + (n : Int) % 10 := IntWalk.i64_in _ (by omega)
  have w2 : IntKind.u8.wrap (48 + (n : Int) % 10) = 48 + (n : Int) % 10 := IntWalk.u8_in _ (by omega)
  have w3 : Int.tdiv (n : Int) 10 = (n : Int) / 10 := Int.tdiv_eq_ediv_of_nonneg (by omega)
  have w4 : Int.tmod (n : Int) 10 = (n : Int) % 10 := Int.tmod_eq_emod_of_nonneg (by omega)
  have w5 : IntKind.i64.wrap ((n : Int) / 10) = (n : Int) / 10 := IntWalk.i64_in _ (by omega)
  have w6 : IntKind.i64.wrap ((n : Int) % 10) = (n : Int) % 10 := IntWalk.i64_in _ (by omega)
  have e1 := Lib.hid (show ((⟨#[UInt8.ofNat (48 + (n : Int) / 10).toNat]⟩ : ByteArray) ++ ⟨#[UInt8.ofNat (48 + (n : Int) % 10).toNat]⟩) = decB n by
    unfold decB
    rw [if_neg (by omega), show (48 + (n : Int) / 10).toNat = 48 + n / 10 by omega, show (48 + (n : Int) % 10).toNat = 48 + n % 10 by omega]
    rfl)
  go_enter Tryd.func106, Tryd.ntmps106
  go_wp2
  go_region_with (go_at_call 106; refine (l1Num_i _ _ (by omega) (by omega)).mono ?_; rintro e w1 ⟨rfl, rfl⟩)
  all_goals
    clear hcv w1 w2 w3 w4 w5 w6
    go_wp2
    go_ret
    exact ⟨congrArg (fun b => Ending.returned (Value.string b)) e1.out, by go_grown⟩

end Go.Proofs.YtbgcbokddldmkaaDoor
