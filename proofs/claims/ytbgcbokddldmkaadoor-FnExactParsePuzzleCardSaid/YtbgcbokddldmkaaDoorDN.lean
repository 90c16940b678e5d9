/- Numbers below 100 in decimal, as lists of bytes: written, read by the library's words, read by the model's. Nothing of the program. -/
import Derived.Lib.AtoiAll
import Derived.Lib.ItoaNum
import Derived.Lib.IndexMore
import Derived.Lib.Strings
namespace Go.Proofs.YtbgcbokddldmkaaDoor

/-- A number below 100. -/
def dec2 (n : Nat) : List UInt8 := if n < 10 then [UInt8.ofNat (48 + n)] else [UInt8.ofNat (48 + n / 10), UInt8.ofNat (48 + n % 10)]

theorem decDigits_dec2 (n : Nat) (h : n < 100) : Lib.decDigits n = dec2 n := by
  unfold dec2
  rw [Lib.decDigits]
  split
  · rfl
  · rename_i h1
    rw [Lib.decDigits, dif_pos (show n / 10 < 10 by omega)]
    rfl

theorem atoi_dec2 : ∀ n : Fin 100, Lib.atoiAll (dec2 n.1) = .ok (n.1 : Int) := by decide +kernel

/-- The number that a text tells, told as it is written. -/
def plainT (l : List UInt8) : Option Nat :=
  match Lib.atoiAll l with
  | .ok v => if 0 ≤ v ∧ Lib.itoa v = l then some v.toNat else none
  | _ => none

theorem plainT_dec2 (n : Nat) (h : n < 100) : plainT (dec2 n) = some n := by
  unfold plainT
  rw [atoi_dec2 ⟨n, h⟩]
  have : Lib.itoa (n : Int) = dec2 n := by
    unfold Lib.itoa
    rw [if_neg (by omega), Int.toNat_natCast, decDigits_dec2 n h]
  simp only
  rw [if_pos ⟨by omega, this⟩, Int.toNat_natCast]

theorem plainT_some {l : List UInt8} {n : Nat} (h : plainT l = some n) (hn : n < 100) : l = dec2 n := by
  unfold plainT at h
  split at h
  · rename_i v hv
    split at h
    · rename_i hc
      cases h
      have h1 := hc.2
      unfold Lib.itoa at h1
      rw [if_neg (by omega), decDigits_dec2 _ hn] at h1
      exact h1.symm
    · cases h
  · cases h

/-- The value of digits. -/
def valD (l : List UInt8) : Nat := l.foldl (fun n c => 10 * n + (c.toNat - 48)) 0

def digitB (c : UInt8) : Bool := decide (48 ≤ c.toNat ∧ c.toNat ≤ 57)

/-- Whether the model reads a number. -/
def readB (l : List UInt8) : Bool := decide (1 ≤ l.length ∧ l.length ≤ 6) && !(decide (l.getD 0 0 = 48) && decide (1 < l.length)) && l.all digitB

/-- What the model reads. -/
def readT (l : List UInt8) : Int := if readB l then (valD l : Int) else -1

theorem valD_step (l : List UInt8) (i : Nat) (h : i < l.length) : valD (l.take (i + 1)) = 10 * valD (l.take i) + ((l.getD i 0).toNat - 48) := by
  unfold valD
  rw [List.take_add_one, List.foldl_append, List.getElem?_eq_getElem h]
  simp [List.getD, List.getElem?_eq_getElem h]

theorem foldl_ge : ∀ (l : List UInt8) (a : Nat), a ≤ l.foldl (fun n c => 10 * n + (c.toNat - 48)) a
  | [], a => Nat.le_refl _
  | c :: l, a => by
    have := foldl_ge l (10 * a + (c.toNat - 48))
    simp only [List.foldl_cons]
    omega

theorem dec2_read : ∀ n : Fin 100, readB (dec2 n.1) = true ∧ valD (dec2 n.1) = n.1 := by decide +kernel

theorem readT_dec2 (n : Nat) (h : n < 100) : readT (dec2 n) = n := by
  have := dec2_read ⟨n, h⟩
  unfold readT
  rw [if_pos this.1, this.2]

theorem u8_eq {c : UInt8} {m : Nat} (h : c.toNat = m) : UInt8.ofNat m = c := by
  subst h; simp

theorem readT_some {l : List UInt8} {n : Nat} (h : readT l = n) (hn : n < 100) : l = dec2 n := by
  unfold readT at h
  split at h
  · rename_i hb
    have hv : valD l = n := by omega
    unfold readB at hb
    rw [Bool.and_eq_true, Bool.and_eq_true, decide_eq_true_eq] at hb
    obtain ⟨⟨⟨l1, l6⟩, hz⟩, hd⟩ := hb
    match l, l1, hz, hd, hv with
    | [c], _, _, hd, hv =>
      simp [digitB] at hd
      simp [valD] at hv
      unfold dec2
      rw [if_pos (by omega), u8_eq (c := c) (by omega)]
    | [c, d], _, hz, hd, hv =>
      simp [digitB] at hd
      simp [valD] at hv
      simp at hz
      have hc : c.toNat ≠ 48 := fun e => hz (UInt8.toNat_inj.1 e)
      unfold dec2
      rw [if_neg (by omega), u8_eq (c := c) (by omega), u8_eq (c := d) (by omega)]
    | c :: d :: e :: r, _, hz, hd, hv =>
      exfalso
      simp at hz
      have hc : c.toNat ≠ 48 := fun e => hz (UInt8.toNat_inj.1 e)
      have h1 : digitB c = true := by simp only [List.all_cons, Bool.and_eq_true] at hd; exact hd.1
      simp [digitB] at h1
      have := foldl_ge r (10 * (10 * (10 * 0 + (c.toNat - 48)) + (d.toNat - 48)) + (e.toNat - 48))
      unfold valD at hv
      simp only [List.foldl_cons] at hv
      omega
  · omega

theorem dec2_no47 : ∀ n : Fin 100, (dec2 n.1).all (fun c => c != 47) = true ∧ 1 ≤ (dec2 n.1).length ∧ (dec2 n.1).length ≤ 2 := by decide +kernel

end Go.Proofs.YtbgcbokddldmkaaDoor
