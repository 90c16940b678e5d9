/- Loops: places of letters and whether they are interlaced, by the model and by the program. -/
import Derived.Test.YtpcebcgmbngababJ5
import Derived.Test.YtpcebcgmbngababC1
namespace Go.Proofs.Ytpcebcgmbngabab
open Go.RowKit
set_option linter.unusedVariables false

/-- The places of a sign among the first so many: the first one and the last one, or -1. -/
def plTo (L : List UInt8) (c : UInt8) : Nat → Int × Int
  | 0 => (-1, -1)
  | i + 1 => if L.getD i 0 = c then (if (plTo L c i).1 < 0 then (i : Int) else (plTo L c i).1, (i : Int)) else plTo L c i

def placesL (L : List UInt8) (c : UInt8) : Int × Int := plTo L c L.length

theorem plTo_at (L : List UInt8) (c : UInt8) (a b : Nat) (hab : a < b) : ∀ i, (∀ j, j < i → (L.getD j 0 = c ↔ j = a ∨ j = b)) → plTo L c i = (if i ≤ a then -1 else (a : Int), if i ≤ a then -1 else if i ≤ b then (a : Int) else b)
  | 0, _ => by simp [plTo]
  | i + 1, h => by
    have ih := plTo_at L c a b hab i fun j hj => h j (by omega)
    have hi := h i (by omega)
    rw [plTo, ih]
    by_cases e : L.getD i 0 = c
    · rw [if_pos e]
      rcases hi.1 e with rfl | rfl
      · rw [Prod.mk.injEq]
        constructor <;> (repeat' split) <;> omega
      · rw [Prod.mk.injEq]
        constructor <;> (repeat' split) <;> omega
    · rw [if_neg e]
      have h1 : i ≠ a := fun e2 => e (hi.2 (.inl e2))
      have h2 : i ≠ b := fun e2 => e (hi.2 (.inr e2))
      rw [Prod.mk.injEq]
      constructor <;> (repeat' split) <;> omega

theorem LoopP.places {L : List UInt8} {ps : List (Nat × Nat)} (h : LoopP L ps) {k : Nat} (hk : k < ps.length) : placesL L (lt8 k) = (((ps.getD k (0, 0)).1 : Int), ((ps.getD k (0, 0)).2 : Int)) := by
  obtain ⟨h1, h2⟩ := h.lt k hk
  unfold placesL
  rw [plTo_at L (lt8 k) _ _ h1 _ (h.at' k hk), if_neg (by omega), if_neg (by omega), if_neg (by omega)]

theorem plTo_bd (L : List UInt8) (c : UInt8) : ∀ i, -1 ≤ (plTo L c i).1 ∧ (plTo L c i).1 ≤ (plTo L c i).2 ∧ (plTo L c i).2 < i
  | 0 => by simp [plTo]
  | i + 1 => by
    have := plTo_bd L c i
    rw [plTo]
    split
    · simp only
      split <;> omega
    · omega

set_option maxHeartbeats 1000000 in
theorem loPlaces_any (t : ByteArray) (c : UInt8) (w : World) (ht : t.size ≤ 1048576) :
    Calls Try.prog 108 #[.string t, .int .u8 c.toNat] w fun e w' => e = .returned (.tuple #[.int .i64 (placesL t.data.toList c).1, .int .i64 (placesL t.data.toList c).2]) ∧ w = w' := by
  have hlen := tx_len t
  have HT := Lib.hid (fun k (h : k < t.size) => tx_get t k h)
  have HS := Lib.hid (fun i => show plTo t.data.toList c (i + 1) = if t.data.toList.getD i 0 = c then (if (plTo t.data.toList c i).1 < 0 then (i : Int) else (plTo t.data.toList c i).1, (i : Int)) else plTo t.data.toList c i from rfl)
  have HE : Hid (placesL t.data.toList c = plTo t.data.toList c t.size) := Lib.hid (by unfold placesL; rw [hlen])
  have HB := Lib.hid (fun i => plTo_bd t.data.toList c i)
  have H0 : plTo t.data.toList c 0 = (-1, -1) := rfl
  obtain ⟨F, hF⟩ : ∃ F, plTo t.data.toList c = F := ⟨_, rfl⟩
  obtain ⟨R, hR⟩ : ∃ R, placesL t.data.toList c = R := ⟨_, rfl⟩
  rw [hF] at HS HE HB H0
  rw [hR] at HE ⊢
  obtain ⟨L, hL⟩ : ∃ L, t.data.toList = L := ⟨_, rfl⟩
  rw [hL] at HT HS
  obtain ⟨d, hd⟩ : ∃ d, c.toNat = d := ⟨_, rfl⟩
  have HD := Lib.hid hd
  rw [hd]
  clear hF hR hL hlen hd
  go_enter Try.func108, Try.ntmps108
  go_wp2
  go_loopw [6, 7, 8] (fun a b i wr => ∃ k : Nat, k ≤ t.size ∧ i = .int .i64 k ∧ a = .int .i64 (F k).1 ∧ b = .int .i64 (F k).2 ∧ w = wr) (fun _ _ i _ => t.size - (intOf i).toNat)
  case atStart => exact ⟨0, by omega, rfl, by rw [H0], by rw [H0], rfl⟩
  case round =>
    obtain ⟨k, hk, rfl, rfl, rfl, rfl⟩ := hrel
    by_cases hlt : k < t.size
    · obtain ⟨y, hy⟩ : ∃ y, (t[k]'hlt).toNat = y := ⟨_, rfl⟩
      have HY := Lib.hid (show (L.getD k 0).toNat = y by rw [← hy, HT.out k hlt])
      have hs := HS.out k
      have hbd := HB.out k
      obtain ⟨S, hS⟩ : ∃ S, F k = S := ⟨_, rfl⟩
      obtain ⟨a, b⟩ := S
      rw [hS] at hs hbd ⊢
      simp only at hs hbd ⊢
      have hk0 : 0 ≤ (k : Int) := by omega
      have hk1 : (k : Int) < (t.size : Int) := by omega
      by_cases hyd : y = d
      · rw [if_pos (UInt8.toNat_inj.1 (by rw [HY.out, HD.out, hyd]))] at hs
        subst hyd
        by_cases ha : a < 0
        · rw [if_pos ha] at hs
          have HN := Lib.hid hs
          clear hs
          go_wp2
          go_roundw
          case rel => exact ⟨k + 1, by omega, by go_num, by rw [HN.out], by rw [HN.out], by trivial⟩
          case measure => simp [intOf]; omega
        · rw [if_neg ha] at hs
          have HN := Lib.hid hs
          clear hs
          go_wp2
          go_roundw
          case rel => exact ⟨k + 1, by omega, by go_num, by rw [HN.out], by rw [HN.out], by trivial⟩
          case measure => simp [intOf]; omega
      · rw [if_neg (fun e => hyd (by rw [← HY.out, ← HD.out, e]))] at hs
        have hyd2 : ¬ (y : Int) = (d : Int) := by omega
        have HN := Lib.hid hs
        clear hs
        go_wp2
        go_roundw
        case rel => exact ⟨k + 1, by omega, by go_num, by rw [HN.out], by rw [HN.out], by trivial⟩
        case measure => simp [intOf]; omega
    · obtain rfl : k = t.size := by omega
      go_wp2
      go_ret2
      exact ⟨by rw [HE.out]; rfl, rfl⟩

/-- Are the letters x and y interlaced? -/
def lacedP (ps : List (Nat × Nat)) (x y : Nat) : Bool := crossB (ps.getD x (0, 0)).1 (ps.getD x (0, 0)).2 (ps.getD y (0, 0)).1 (ps.getD y (0, 0)).2

theorem LoopP.apart {L : List UInt8} {ps : List (Nat × Nat)} (h : LoopP L ps) {x y : Nat} (hx : x < ps.length) (hy : y < ps.length) (hne : x ≠ y) :
    (ps.getD x (0, 0)).1 ≠ (ps.getD y (0, 0)).1 ∧ (ps.getD x (0, 0)).1 ≠ (ps.getD y (0, 0)).2 ∧ (ps.getD x (0, 0)).2 ≠ (ps.getD y (0, 0)).1 ∧ (ps.getD x (0, 0)).2 ≠ (ps.getD y (0, 0)).2 := by
  obtain ⟨h1, h2⟩ := h.lt x hx
  obtain ⟨h3, h4⟩ := h.lt y hy
  have hf := h.few
  have key : ∀ j, j < L.length → L.getD j 0 = lt8 x → L.getD j 0 = lt8 y → False := fun j hj e1 e2 => hne (lt8_inj (by omega) (by omega) (e1.symm.trans e2))
  have ax := fun j hj => h.at' x hx j hj
  have ay := fun j hj => h.at' y hy j hj
  refine ⟨fun e => key _ (show (ps.getD x (0, 0)).1 < _ by omega) ((ax _ (by omega)).2 (.inl rfl)) ((ay _ (by omega)).2 (.inl e)),
    fun e => key _ (show (ps.getD x (0, 0)).1 < _ by omega) ((ax _ (by omega)).2 (.inl rfl)) ((ay _ (by omega)).2 (.inr e)),
    fun e => key _ (show (ps.getD x (0, 0)).2 < _ by omega) ((ax _ (by omega)).2 (.inr rfl)) ((ay _ (by omega)).2 (.inl e)),
    fun e => key _ (show (ps.getD x (0, 0)).2 < _ by omega) ((ax _ (by omega)).2 (.inr rfl)) ((ay _ (by omega)).2 (.inr e))⟩

/-- How many of two places lie between a and i. -/
def btw (a c d i : Nat) : Nat := (if a < c ∧ c < i then 1 else 0) + (if a < d ∧ d < i then 1 else 0)

theorem btw_step {a c d i : Nat} (hai : a < i) (hcd : c < d) : btw a c d (i + 1) = btw a c d i + if i = c ∨ i = d then 1 else 0 := by
  unfold btw
  (repeat' split) <;> omega

theorem btw_le (a c d i : Nat) : btw a c d i ≤ 2 := by
  unfold btw
  split <;> split <;> omega

theorem btw_cross {a b c d : Nat} (h1 : a < b) (h2 : c < d) (h3 : a ≠ c) (h4 : a ≠ d) (h5 : b ≠ c) (h6 : b ≠ d) : (btw a c d b == 1) = crossB a b c d := by
  unfold btw crossB
  rw [Bool.eq_iff_iff, beq_iff_eq, decide_eq_true_iff]
  split <;> split <;> omega

set_option maxHeartbeats 1000000 in
theorem loLaced_any (t : ByteArray) (ps : List (Nat × Nat)) (x y dx dy : Nat) (w : World) (h : LoopP t.data.toList ps) (hx : x < ps.length) (hy : y < ps.length) (hdx : dx = 97 + x) (hdy : dy = 97 + y) :
    Calls Try.prog 83 #[.string t, .int .u8 dx, .int .u8 dy] w fun e w' => e = .returned (.bool (lacedP ps x y)) ∧ w = w' := by
  have hlen := tx_len t
  have hfew := h.few
  have hL := h.len
  have ht : t.size ≤ 16 := by omega
  have HPL := Lib.hid (h.places hx)
  obtain ⟨ab1, ab2⟩ := h.lt x hx
  obtain ⟨cd1, cd2⟩ := h.lt y hy
  have hat := h.at' y hy
  have hap := fun hne => h.apart hx hy hne
  have hself : x = y → lacedP ps x y = false := by rintro rfl; unfold lacedP crossB; simp <;> omega
  have hval : lacedP ps x y = crossB (ps.getD x (0, 0)).1 (ps.getD x (0, 0)).2 (ps.getD y (0, 0)).1 (ps.getD y (0, 0)).2 := rfl
  obtain ⟨V, hV⟩ : ∃ V, lacedP ps x y = V := ⟨_, rfl⟩
  rw [hV] at hval hself ⊢
  obtain ⟨a, ha⟩ : ∃ a, (ps.getD x (0, 0)).1 = a := ⟨_, rfl⟩
  obtain ⟨b, hb⟩ : ∃ b, (ps.getD x (0, 0)).2 = b := ⟨_, rfl⟩
  obtain ⟨c, hc⟩ : ∃ c, (ps.getD y (0, 0)).1 = c := ⟨_, rfl⟩
  obtain ⟨d, hd⟩ : ∃ d, (ps.getD y (0, 0)).2 = d := ⟨_, rfl⟩
  simp only [ha, hb] at HPL ab1 ab2 hap hval
  simp only [hc, hd] at cd1 cd2 hat hap hval
  have HT := Lib.hid (fun k (h : k < t.size) => show ((t[k]'h).toNat = dy ↔ k = c ∨ k = d) by
    rw [tx_get t k h, ← hat k (by omega), hdy]
    exact ⟨fun e => lt8_of _ _ e, fun e => by rw [e, lt8_nat y (by omega)]⟩)
  have HX := Lib.hid (show (lt8 x).toNat = dx by rw [hdx]; exact lt8_nat x (by omega))
  have HXY := Lib.hid (show x = y ↔ dx = dy by omega)
  have HLP := Lib.hid (fun W => show Calls Try.prog 108 #[.string t, .int .u8 dx] W fun e w' => e = .returned (.tuple #[.int .i64 (placesL t.data.toList (lt8 x)).1, .int .i64 (placesL t.data.toList (lt8 x)).2]) ∧ W = w' by have := loPlaces_any t (lt8 x) W (by omega); rw [HX.out] at this; exact this)
  have HAP := Lib.hid hap
  have HSELF := Lib.hid hself
  have HVAL := Lib.hid hval
  rw [hlen] at ab2 cd2
  have hw1 : IntKind.i64.wrap ((a : Int) + 1) = (a : Int) + 1 := by rw [IntKind.wrap_i64]; omega
  clear hat hap hself hval ha hb hc hd hV hL hlen hdx hdy
  go_enter Try.func83, Try.ntmps83
  go_wp2_with (first | (go_at_call 108; (with_reducible refine (HLP.out _).mono ?_); rintro e w1 ⟨rfl, rfl⟩; rw [HPL.out]))
  go_loopw [9, 10] (fun n i wr => ∃ k : Nat, a < k ∧ k ≤ b ∧ i = .int .i64 k ∧ n = .int .i64 (btw a c d k : Int) ∧ w = wr) (fun _ i _ => b - (intOf i).toNat)
  case atStart => exact ⟨a + 1, by omega, by omega, by simp, by unfold btw; rw [if_neg (by omega), if_neg (by omega)]; rfl, rfl⟩
  case round =>
    obtain ⟨k, hak, hkb, rfl, rfl, rfl⟩ := hrel
    have hbl := btw_le a c d k
    have hst := btw_step hak cd1
    obtain ⟨n, hn⟩ : ∃ n, btw a c d k = n := ⟨_, rfl⟩
    rw [hn] at hbl hst ⊢
    by_cases hlt : k < b
    · have hkl : k < t.size := by omega
      have hkt := HT.out k hkl
      obtain ⟨q, hq⟩ : ∃ q, (t[k]'hkl).toNat = q := ⟨_, rfl⟩
      rw [hq] at hkt
      have hk0 : 0 ≤ (k : Int) := by omega
      have hk1 : (k : Int) < (t.size : Int) := by omega
      by_cases he : k = c ∨ k = d
      · rw [if_pos he] at hst
        have HN := Lib.hid hst
        obtain rfl : q = dy := hkt.2 he
        clear hst hkt he hn
        go_wp2
        go_roundw
        case rel => exact ⟨k + 1, by omega, by omega, by go_num, by rw [HN.out]; go_num, by trivial⟩
        case measure => simp [intOf]; omega
      · rw [if_neg he] at hst
        have hne : ¬ q = dy := fun e => he (hkt.1 e)
        have HN := Lib.hid (show btw a c d (k + 1) = n by omega)
        have hne2 : ¬ (q : Int) = (dy : Int) := by omega
        clear hst hkt he hn
        go_wp2
        go_roundw
        case rel => exact ⟨k + 1, by omega, by omega, by go_num, by rw [HN.out], by trivial⟩
        case measure => simp [intOf]; omega
    · obtain rfl : k = b := by omega
      have hsame : decide (k < k) = false := by simp
      by_cases hxy : x = y
      · have hv := HSELF.out hxy
        obtain rfl := HXY.out.1 hxy
        subst hv
        clear hst hn
        go_wp2
        go_ret
        exact ⟨rfl, rfl⟩
      · obtain ⟨g1, g2, g3, g4⟩ := HAP.out hxy
        have hv := btw_cross ab1 cd1 g1 g2 g3 g4
        rw [hn, ← HVAL.out] at hv
        have hv2 : ((n : Int) == 1) = V := by rw [← hv, Bool.eq_iff_iff, beq_iff_eq, beq_iff_eq]; omega
        have hne0 : ¬ dx = dy := fun e => hxy (HXY.out.2 e)
        have hne : ((dx : Int) != (dy : Int)) = true := bne_iff_ne.2 (by omega)
        clear hst hn hv HVAL g1 g2 g3 g4
        go_wp2
        go_ret
        exact ⟨rfl, rfl⟩

set_option maxHeartbeats 400000 in
theorem letterOf_any (k : Nat) (w : World) (h : k < 100) :
    Calls Try.prog 78 #[.int .i64 k] w fun e w' => e = .returned (.int .u8 ((97 + k : Nat) : Int)) ∧ w = w' := by
  have h1 : IntKind.i64.wrap (97 + (k : Int)) = 97 + (k : Int) := by rw [IntKind.wrap_i64]; omega
  have h2 : IntKind.u8.wrap (97 + (k : Int)) = 97 + (k : Int) := IntWalk.u8_in _ (by omega)
  go_enter Try.func78, Try.ntmps78
  go_wp2
  go_ret
  exact ⟨by simp, rfl⟩

/-- The number of a letter that a text of one sign names, if it is one of the first n. -/
def letK (a : ByteArray) (n : Nat) : Option Nat := if a.size = 1 then (if 97 ≤ (a.data.toList.getD 0 0).toNat ∧ (a.data.toList.getD 0 0).toNat < 97 + n then some ((a.data.toList.getD 0 0).toNat - 97) else none) else none

theorem letK_some {a : ByteArray} {n k : Nat} (h : letK a n = some k) : a.size = 1 ∧ (a.data.toList.getD 0 0).toNat = 97 + k ∧ k < n := by
  unfold letK at h
  split at h
  · split at h
    · cases h
      omega
    · cases h
  · cases h

theorem letK_none {a : ByteArray} {n : Nat} (h : letK a n = none) : ¬ a.size = 1 ∨ (a.size = 1 ∧ ((a.data.toList.getD 0 0).toNat < 97 ∨ 97 + n ≤ (a.data.toList.getD 0 0).toNat)) := by
  unfold letK at h
  split at h
  · split at h
    · cases h
    · omega
  · exact .inl ‹_›

end Go.Proofs.Ytpcebcgmbngabab
