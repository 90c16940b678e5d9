/- Numbers below 1000 in decimal, as lists of bytes: written, read by the library's words, read by the model's. Nothing of the program. -/
import Derived.Test.YtbgcbokddldmkaaDoorDN
namespace Go.Proofs.YtbgcbokddldmkaaDoor

/-- A number below 1000. -/
def dec3 (n : Nat) : List UInt8 := if n < 10 then [UInt8.ofNat (48 + n)] else if n < 100 then [UInt8.ofNat (48 + n / 10), UInt8.ofNat (48 + n % 10)] else [UInt8.ofNat (48 + n / 100), UInt8.ofNat (48 + n / 10 % 10), UInt8.ofNat (48 + n % 10)]

theorem decDigits_dec3 (n : Nat) (h : n < 1000) : Lib.decDigits n = dec3 n := by
  unfold dec3
  rw [Lib.decDigits]
  split
  · rfl
  · rename_i h1
    rw [Lib.decDigits]
    split
    · rename_i h2
      rw [if_pos (by omega)]
      rfl
    · rename_i h2
      rw [if_neg (by omega), Lib.decDigits, dif_pos (show n / 10 / 10 < 10 by omega), show n / 10 / 10 = n / 100 by omega]
      rfl

theorem atoi_dec3 : ∀ n : Fin 1000, Lib.atoiAll (dec3 n.1) = .ok (n.1 : Int) := by decide +kernel

theorem plainT_dec3 (n : Nat) (h : n < 1000) : plainT (dec3 n) = some n := by
  unfold plainT
  rw [atoi_dec3 ⟨n, h⟩]
  have : Lib.itoa (n : Int) = dec3 n := by
    unfold Lib.itoa
    rw [if_neg (by omega), Int.toNat_natCast, decDigits_dec3 n h]
  simp only
  rw [if_pos ⟨by omega, this⟩, Int.toNat_natCast]

theorem plainT_some3 {l : List UInt8} {n : Nat} (h : plainT l = some n) (hn : n < 1000) : l = dec3 n := by
  unfold plainT at h
  split at h
  · rename_i v hv
    split at h
    · rename_i hc
      cases h
      have h1 := hc.2
      unfold Lib.itoa at h1
      rw [if_neg (by omega), decDigits_dec3 _ hn] at h1
      exact h1.symm
    · cases h
  · cases h

theorem dec3_read : ∀ n : Fin 1000, readB (dec3 n.1) = true ∧ valD (dec3 n.1) = n.1 := by decide +kernel

theorem readT_dec3 (n : Nat) (h : n < 1000) : readT (dec3 n) = n := by
  have := dec3_read ⟨n, h⟩
  unfold readT
  rw [if_pos this.1, this.2]

theorem readT_some3 {l : List UInt8} {n : Nat} (h : readT l = n) (hn : n < 1000) : l = dec3 n := by
  unfold readT at h
  split at h
  · rename_i hb
    have hv : valD l = n := by omega
    unfold readB at hb
    rw [Bool.and_eq_true, Bool.and_eq_true, decide_eq_true_eq] at hb
    obtain ⟨⟨⟨l1, l6⟩, hz⟩, hd⟩ := hb
    match l, l1, hz, hd, hv with
    | [c], _, _, hd, hv =>
      simp [digitB] at hd
      simp [valD] at hv
      unfold dec3
      rw [if_pos (by omega), u8_eq (c := c) (by omega)]
    | [c, d], _, hz, hd, hv =>
      simp [digitB] at hd
      simp [valD] at hv
      simp at hz
      have hc : c.toNat ≠ 48 := fun e => hz (UInt8.toNat_inj.1 e)
      unfold dec3
      rw [if_neg (by omega), if_pos (by omega), u8_eq (c := c) (by omega), u8_eq (c := d) (by omega)]
    | [c, d, e], _, hz, hd, hv =>
      simp [digitB] at hd
      simp [valD] at hv
      simp at hz
      have hc : c.toNat ≠ 48 := fun e => hz (UInt8.toNat_inj.1 e)
      unfold dec3
      rw [if_neg (by omega), if_neg (by omega), u8_eq (c := c) (by omega), u8_eq (c := d) (by omega), u8_eq (c := e) (by omega)]
    | c :: d :: e :: f :: r, _, hz, hd, hv =>
      exfalso
      simp at hz
      have hc : c.toNat ≠ 48 := fun e => hz (UInt8.toNat_inj.1 e)
      have h1 : digitB c = true := by simp only [List.all_cons, Bool.and_eq_true] at hd; exact hd.1
      simp [digitB] at h1
      have := foldl_ge r (10 * (10 * (10 * (10 * 0 + (c.toNat - 48)) + (d.toNat - 48)) + (e.toNat - 48)) + (f.toNat - 48))
      unfold valD at hv
      simp only [List.foldl_cons] at hv
      omega
  · omega

def freeB (l : List UInt8) : Bool := l.all (fun c => c != 44) && l.all (fun c => c != 45) && l.all (fun c => c != 46) && l.all (fun c => c != 58)

theorem dec3_freeB : ∀ n : Fin 1000, freeB (dec3 n.1) = true ∧ 1 ≤ (dec3 n.1).length ∧ (dec3 n.1).length ≤ 3 := by decide +kernel

theorem dec3_free (n : Nat) (h : n < 1000) : (dec3 n).all (fun c => c != 44) = true ∧ (dec3 n).all (fun c => c != 45) = true ∧ (dec3 n).all (fun c => c != 46) = true ∧ (dec3 n).all (fun c => c != 58) = true := by
  have := (dec3_freeB ⟨n, h⟩).1
  unfold freeB at this
  simp only [Bool.and_eq_true] at this
  exact ⟨this.1.1.1, this.1.1.2, this.1.2, this.2⟩

theorem dec3_len (n : Nat) (h : n < 1000) : 1 ≤ (dec3 n).length ∧ (dec3 n).length ≤ 3 := (dec3_freeB ⟨n, h⟩).2

end Go.Proofs.YtbgcbokddldmkaaDoor
