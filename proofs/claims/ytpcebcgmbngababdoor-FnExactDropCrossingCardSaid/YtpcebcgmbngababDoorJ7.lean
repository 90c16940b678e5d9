/- Loops: places of letters and whether they are interlaced, by the model and by the program. -/
import Derived.Test.YtpcebcgmbngababDoorJ5
import Derived.Test.YtpcebcgmbngababDoorC1
namespace Go.Proofs.YtpcebcgmbngababDoor
open Go.RowKit
set_option linter.unusedVariables false

/-- The places of a sign among the first so many: the first one and the last one, or -1. -/
def plTo (L : List UInt8) (c : UInt8) : Nat → Int × Int
  | 0 => (-1, -1)
  | i + 1 => if L.getD i 0 = c then (if (plTo L c i).1 < 0 then (i : Int) else (plTo L c i).1, (i : Int)) else plTo L c i

def placesL (L : List UInt8) (c : UInt8) : Int × Int := plTo L c L.length

theorem plTo_at (L : List UInt8) (c : UInt8) (a b : Nat) (hab : a < b) : ∀ i, (∀ j, j < i → (L.getD j 0 = c ↔ j = a ∨ j = b)) → plTo L c i = (if i ≤ a then -1 else (a : Int), if i ≤ a then -1 else if i ≤ b then (a : Int) else b)
  | 0, _ => by simp [plTo]
  | i + 1, h => by
    have ih := plTo_at L c a b hab i fun j hj => h j (by omega)
    have hi := h i (by omega)
    rw [plTo, ih]
    by_cases e : L.getD i 0 = c
    · rw [if_pos e]
      rcases hi.1 e with rfl | rfl
      · rw [Prod.mk.injEq]
        constructor <;> (repeat' split) <;> omega
      · rw [Prod.mk.injEq]
        constructor <;> (repeat' split) <;> omega
    · rw [if_neg e]
      have h1 : i ≠ a := fun e2 => e (hi.2 (.inl e2))
      have h2 : i ≠ b := fun e2 => e (hi.2 (.inr e2))
      rw [Prod.mk.injEq]
      constructor <;> (repeat' split) <;> omega

theorem LoopP.places {L : List UInt8} {ps : List (Nat × Nat)} (h : LoopP L ps) {k : Nat} (hk : k < ps.length) : placesL L (lt8 k) = (((ps.getD k (0, 0)).1 : Int), ((ps.getD k (0, 0)).2 : Int)) := by
  obtain ⟨h1, h2⟩ := h.lt k hk
  unfold placesL
  rw [plTo_at L (lt8 k) _ _ h1 _ (h.at' k hk), if_neg (by omega), if_neg (by omega), if_neg (by omega)]

theorem plTo_bd (L : List UInt8) (c : UInt8) : ∀ i, -1 ≤ (plTo L c i).1 ∧ (plTo L c i).1 ≤ (plTo L c i).2 ∧ (plTo L c i).2 < i
  | 0 => by simp [plTo]
  | i + 1 => by
    have := plTo_bd L c i
    rw [plTo]
    split
    · simp only
      split <;> omega
    · omega

/-- Are the letters x and y interlaced? -/
def lacedP (ps : List (Nat × Nat)) (x y : Nat) : Bool := crossB (ps.getD x (0, 0)).1 (ps.getD x (0, 0)).2 (ps.getD y (0, 0)).1 (ps.getD y (0, 0)).2

theorem LoopP.apart {L : List UInt8} {ps : List (Nat × Nat)} (h : LoopP L ps) {x y : Nat} (hx : x < ps.length) (hy : y < ps.length) (hne : x ≠ y) :
    (ps.getD x (0, 0)).1 ≠ (ps.getD y (0, 0)).1 ∧ (ps.getD x (0, 0)).1 ≠ (ps.getD y (0, 0)).2 ∧ (ps.getD x (0, 0)).2 ≠ (ps.getD y (0, 0)).1 ∧ (ps.getD x (0, 0)).2 ≠ (ps.getD y (0, 0)).2 := by
  obtain ⟨h1, h2⟩ := h.lt x hx
  obtain ⟨h3, h4⟩ := h.lt y hy
  have hf := h.few
  have key : ∀ j, j < L.length → L.getD j 0 = lt8 x → L.getD j 0 = lt8 y → False := fun j hj e1 e2 => hne (lt8_inj (by omega) (by omega) (e1.symm.trans e2))
  have ax := fun j hj => h.at' x hx j hj
  have ay := fun j hj => h.at' y hy j hj
  refine ⟨fun e => key _ (show (ps.getD x (0, 0)).1 < _ by omega) ((ax _ (by omega)).2 (.inl rfl)) ((ay _ (by omega)).2 (.inl e)),
    fun e => key _ (show (ps.getD x (0, 0)).1 < _ by omega) ((ax _ (by omega)).2 (.inl rfl)) ((ay _ (by omega)).2 (.inr e)),
    fun e => key _ (show (ps.getD x (0, 0)).2 < _ by omega) ((ax _ (by omega)).2 (.inr rfl)) ((ay _ (by omega)).2 (.inl e)),
    fun e => key _ (show (ps.getD x (0, 0)).2 < _ by omega) ((ax _ (by omega)).2 (.inr rfl)) ((ay _ (by omega)).2 (.inr e))⟩

/-- How many of two places lie between a and i. -/
def btw (a c d i : Nat) : Nat := (if a < c ∧ c < i then 1 else 0) + (if a < d ∧ d < i then 1 else 0)

theorem btw_step {a c d i : Nat} (hai : a < i) (hcd : c < d) : btw a c d (i + 1) = btw a c d i + if i = c ∨ i = d then 1 else 0 := by
  unfold btw
  (repeat' split) <;> omega

theorem btw_le (a c d i : Nat) : btw a c d i ≤ 2 := by
  unfold btw
  split <;> split <;> omega

theorem btw_cross {a b c d : Nat} (h1 : a < b) (h2 : c < d) (h3 : a ≠ c) (h4 : a ≠ d) (h5 : b ≠ c) (h6 : b ≠ d) : (btw a c d b == 1) = crossB a b c d := by
  unfold btw crossB
  rw [Bool.eq_iff_iff, beq_iff_eq, decide_eq_true_iff]
  split <;> split <;> omega

set_option maxHeartbeats 400000 in
theorem letterOf_any (k : Nat) (w : World) (h : k < 100) :
    Calls Tryd.prog 15 #[.int .i64 k] w fun e w' => e = .returned (.int .u8 ((97 + k : Nat) : Int)) ∧ w = w' := by
  have h1 : IntKind.i64.wrap (97 + (k : Int)) = 97 + (k : Int) := by rw [IntKind.wrap_i64]; omega
  have h2 : IntKind.u8.wrap (97 + (k : Int)) = 97 + (k : Int) := IntWalk.u8_in _ (by omega)
  go_enter Tryd.func15, Tryd.ntmps15
  go_wp2
  go_ret
  exact ⟨by simp, rfl⟩

/-- The number of a letter that a text of one sign names, if it is one of the first n. -/
def letK (a : ByteArray) (n : Nat) : Option Nat := if a.size = 1 then (if 97 ≤ (a.data.toList.getD 0 0).toNat ∧ (a.data.toList.getD 0 0).toNat < 97 + n then some ((a.data.toList.getD 0 0).toNat - 97) else none) else none

theorem letK_some {a : ByteArray} {n k : Nat} (h : letK a n = some k) : a.size = 1 ∧ (a.data.toList.getD 0 0).toNat = 97 + k ∧ k < n := by
  unfold letK at h
  split at h
  · split at h
    · cases h
      omega
    · cases h
  · cases h

theorem letK_none {a : ByteArray} {n : Nat} (h : letK a n = none) : ¬ a.size = 1 ∨ (a.size = 1 ∧ ((a.data.toList.getD 0 0).toNat < 97 ∨ 97 + n ≤ (a.data.toList.getD 0 0).toNat)) := by
  unfold letK at h
  split at h
  · split at h
    · cases h
    · omega
  · exact .inl ‹_›

set_option maxHeartbeats 400000 in
theorem indexOf_long (a0 : Option Addr) (n cap : Nat) (a : ByteArray) (w : World) (h : ¬ a.size = 1) :
    Calls Tryd.prog 10 #[.slice a0 n cap, .string a] w fun e w' => e = .returned (.tuple #[.int .i64 0, .bool false]) ∧ w = w' := by
  have h1 : ((a.size : Int) != 1) = true := bne_iff_ne.2 (by omega)
  go_enter Tryd.func10, Tryd.ntmps10
  go_wp2
  go_ret2
  exact ⟨rfl, rfl⟩

set_option maxHeartbeats 400000 in
theorem indexOf_yes (a0 : Option Addr) (n cap q : Nat) (a : ByteArray) (w : World) (h : a.size = 1) (hq : (a.data.toList.getD 0 0).toNat = q) (hl : 97 ≤ q) (hn : q < 97 + n) :
    Calls Tryd.prog 10 #[.slice a0 n cap, .string a] w fun e w' => ∃ z, e = .returned (.tuple #[.int .i64 z, .bool true]) ∧ z = (q : Int) - 97 ∧ w = w' := by
  have h0 : 0 < a.size := by omega
  have hq2 : (a[0]'h0).toNat = q := by rw [tx_get a 0 h0]; exact hq
  have q256 : q < 256 := by rw [← hq]; exact UInt8.toNat_lt _
  have h1 : ((a.size : Int) != 1) = false := by rw [h]; rfl
  have hw : IntKind.i64.wrap ((q : Int) - 97) = (q : Int) - 97 := by rw [IntKind.wrap_i64]; omega
  have h2 : (0 : Int) < (a.size : Int) := by omega
  have d1 : decide (0 ≤ (q : Int) - 97) = true := by simp; omega
  have d2 : decide ((q : Int) - 97 < (n : Int)) = true := by simp; omega
  clear h hq
  go_enter Tryd.func10, Tryd.ntmps10
  go_wp2
  go_ret2
  exact ⟨_, rfl, rfl, rfl⟩

set_option maxHeartbeats 400000 in
theorem indexOf_less (a0 : Option Addr) (n cap q : Nat) (a : ByteArray) (w : World) (h : a.size = 1) (hq : (a.data.toList.getD 0 0).toNat = q) (hl : q < 97) :
    Calls Tryd.prog 10 #[.slice a0 n cap, .string a] w fun e w' => ∃ z, e = .returned (.tuple #[.int .i64 z, .bool false]) ∧ z = (q : Int) - 97 ∧ w = w' := by
  have h0 : 0 < a.size := by omega
  have hq2 : (a[0]'h0).toNat = q := by rw [tx_get a 0 h0]; exact hq
  have q256 : q < 256 := by rw [← hq]; exact UInt8.toNat_lt _
  have h1 : ((a.size : Int) != 1) = false := by rw [h]; rfl
  have hw : IntKind.i64.wrap ((q : Int) - 97) = (q : Int) - 97 := by rw [IntKind.wrap_i64]; omega
  have h2 : (0 : Int) < (a.size : Int) := by omega
  have d1 : decide (0 ≤ (q : Int) - 97) = false := by simp; omega
  clear h hq
  go_enter Tryd.func10, Tryd.ntmps10
  go_wp2
  go_ret2
  exact ⟨_, rfl, rfl, rfl⟩

set_option maxHeartbeats 400000 in
theorem indexOf_more (a0 : Option Addr) (n cap q : Nat) (a : ByteArray) (w : World) (h : a.size = 1) (hq : (a.data.toList.getD 0 0).toNat = q) (hl : 97 ≤ q) (hn : 97 + n ≤ q) :
    Calls Tryd.prog 10 #[.slice a0 n cap, .string a] w fun e w' => ∃ z, e = .returned (.tuple #[.int .i64 z, .bool false]) ∧ z = (q : Int) - 97 ∧ w = w' := by
  have h0 : 0 < a.size := by omega
  have hq2 : (a[0]'h0).toNat = q := by rw [tx_get a 0 h0]; exact hq
  have q256 : q < 256 := by rw [← hq]; exact UInt8.toNat_lt _
  have h1 : ((a.size : Int) != 1) = false := by rw [h]; rfl
  have hw : IntKind.i64.wrap ((q : Int) - 97) = (q : Int) - 97 := by rw [IntKind.wrap_i64]; omega
  have h2 : (0 : Int) < (a.size : Int) := by omega
  have d1 : decide (0 ≤ (q : Int) - 97) = true := by simp; omega
  have d2 : decide ((q : Int) - 97 < (n : Int)) = false := by simp; omega
  clear h hq
  go_enter Tryd.func10, Tryd.ntmps10
  go_wp2
  go_ret2
  exact ⟨_, rfl, rfl, rfl⟩

theorem indexOf_some (a0 : Option Addr) (n cap k : Nat) (a : ByteArray) (w : World) (h : letK a n = some k) :
    Calls Tryd.prog 10 #[.slice a0 n cap, .string a] w fun e w' => e = .returned (.tuple #[.int .i64 k, .bool true]) ∧ w = w' := by
  obtain ⟨h1, h2, h3⟩ := letK_some h
  refine (indexOf_yes a0 n cap (97 + k) a w h1 h2 (by omega) (by omega)).mono ?_
  rintro e w' ⟨z, rfl, rfl, rfl⟩
  exact ⟨by simp; omega, rfl⟩

theorem indexOf_none (a0 : Option Addr) (n cap : Nat) (a : ByteArray) (w : World) (h : letK a n = none) :
    Calls Tryd.prog 10 #[.slice a0 n cap, .string a] w fun e w' => ∃ z, e = .returned (.tuple #[.int .i64 z, .bool false]) ∧ w = w' := by
  rcases letK_none h with h1 | ⟨h1, h2⟩
  · exact (indexOf_long a0 n cap a w h1).mono fun e w' ⟨he, hw⟩ => ⟨0, he, hw⟩
  · by_cases h3 : (a.data.toList.getD 0 0).toNat < 97
    · exact (indexOf_less a0 n cap _ a w h1 rfl h3).mono fun e w' ⟨z, he, _, hw⟩ => ⟨z, he, hw⟩
    · exact (indexOf_more a0 n cap _ a w h1 rfl (by omega) (by omega)).mono fun e w' ⟨z, he, _, hw⟩ => ⟨z, he, hw⟩

end Go.Proofs.YtpcebcgmbngababDoor
