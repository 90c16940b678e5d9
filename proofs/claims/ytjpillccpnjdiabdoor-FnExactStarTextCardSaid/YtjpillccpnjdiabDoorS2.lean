/- The text of a star. -/
import Derived.Test.YtjpillccpnjdiabDoorS1
import Derived.Test.YtjpillccpnjdiabDoorB3
import Derived.Deep.RegionHeld3
namespace Go.Proofs.YtjpillccpnjdiabDoor
open Go.RowKit

theorem decB_size (n : Nat) : (decB n).size ≤ 2 := by
  unfold decB
  split <;> simp [ByteArray.size]

theorem l1Num_any (n : Int) (w : World) (h1 : 0 ≤ n) (h3 : n < 100) :
    Calls Tryd.prog 22 #[.int .i64 n] w fun e w' => e = .returned (.string (decB n.toNat)) ∧ Below w.heap.size w w' := by
  obtain ⟨m, rfl⟩ := Int.eq_ofNat_of_zero_le h1
  rw [Int.toNat_natCast]
  by_cases h : m < 10
  · refine (l1Num_lt m w h).mono fun e w' ⟨he, hw⟩ => ⟨?_, by rw [hw]; go_grown⟩
    rw [he]
    unfold decB
    rw [if_pos h, show (48 + (m : Int)).toNat = 48 + m by omega]
  · exact l1Num_ge m w (by omega) (by omega)

theorem itoa_i (n : Int) (w : World) (h1 : 0 ≤ n) (h3 : n < 100) :
    Calls Tryd.prog 14 #[.int .i64 n] w fun e w' => e = .returned (.string (decB n.toNat)) ∧ w = w' := by
  obtain ⟨m, rfl⟩ := Int.eq_ofNat_of_zero_le h1
  rw [Int.toNat_natCast]
  exact itoa_any m w (by omega)

/-- The text of a star. -/
def starB (p s : Int) : ByteArray := ⟨#[123]⟩ ++ decB p.toNat ++ ⟨#[47]⟩ ++ decB s.toNat ++ ⟨#[125]⟩

set_option maxHeartbeats 400000 in
theorem iStarText_yes (p s : Int) (w : World) (h : 3 ≤ p ∧ p ≤ 60 ∧ 1 ≤ s ∧ s < p) :
    Calls Tryd.prog 7 #[.agg #[.int .i64 p, .int .i64 s]] w fun e w' => e = .returned (.tuple #[.string (starB p s), .bool true]) ∧ Below w.heap.size w w' := by
  have hp : 3 ≤ p := h.1
  have hp' : p ≤ 60 := h.2.1
  have hs0 : 1 ≤ s := h.2.2.1
  have hs1 : s < p := h.2.2.2
  have z1 := decB_size p.toNat
  have z2 := decB_size s.toNat
  go_enter Tryd.func7, Tryd.ntmps7
  go_wp2_with (first | (go_at_call 13; (with_reducible refine (isStar_yes _ _ _ h).mono ?_); rintro e w1 ⟨rfl, hb⟩; (have c0 : w1.cell? ⟨w.heap.size, 0, none⟩ = some (.int .i64 p) := cellB hb (by first | assumption | go_simp)); (have c1 : w1.cell? ⟨w.heap.size, 1, none⟩ = some (.int .i64 s) := cellB hb (by first | assumption | go_simp)); (have hz : w.heap.size < w1.heap.size := by (have := hb.size; (try simp at this); omega)); (have hB : Below w.heap.size w w1 := by (refine Below.trans ?_ (hb.mono (by first | (simp; done) | omega | (simp; omega))); go_grown)); clear hb))
  go_quiet ((go_at_call 14; exact quietP (itoa_i _ _ (by omega) (by omega))))
  go_wp2
  go_ret2
  exact ⟨rfl, bdn hB _⟩

set_option maxHeartbeats 400000 in
theorem iStarText_no (p s : Int) (w : World) (h : ¬ (3 ≤ p ∧ p ≤ 60 ∧ 1 ≤ s ∧ s < p)) :
    Calls Tryd.prog 7 #[.agg #[.int .i64 p, .int .i64 s]] w fun e w' => e = .returned (.tuple #[.string ⟨#[]⟩, .bool false]) ∧ Below w.heap.size w w' := by
  go_enter Tryd.func7, Tryd.ntmps7
  go_wp2_with (first | (go_at_call 13; (with_reducible refine (isStar_no _ _ _ h).mono ?_); rintro e w1 ⟨rfl, hb⟩; obtain ⟨hc, hf⟩ := bcell hb; (have hz : w.heap.size < w1.heap.size := by (have := hb.size; (try simp at this); omega)); (have hB : Below w.heap.size w w1 := by (refine Below.trans ?_ (hb.mono (by first | (simp; done) | omega | (simp; omega))); go_grown))))
  go_ret2
  exact ⟨rfl, hB⟩

theorem strAdd (a b : ByteArray) (h : a.size + b.size ≤ 1000000000) : Op.stringOp .add a b = pure (.string (a ++ b)) := by
  have e : ¬ (((a.size + b.size : Nat) : Int) > IntKind.i64.max) := by
    have : IntKind.i64.max = 9223372036854775807 := by decide +kernel
    omega
  unfold Op.stringOp
  simp only [if_neg e]

set_option maxHeartbeats 400000 in
theorem srText_any (p s : Int) (w : World) (h : 3 ≤ p ∧ p ≤ 60 ∧ 1 ≤ s ∧ s < p) :
    Calls Tryd.prog 12 #[.agg #[.int .i64 p, .int .i64 s]] w fun e w' => e = .returned (.string (starB p s)) ∧ Below w.heap.size w w' := by
  have hp : 3 ≤ p := h.1
  have hp' : p ≤ 60 := h.2.1
  have hs0 : 1 ≤ s := h.2.2.1
  have hs1 : s < p := h.2.2.2
  have z1 := decB_size p.toNat
  have z2 := decB_size s.toNat
  have a1 := strAdd ⟨#[123]⟩ (decB p.toNat) (by rw [show (⟨#[123]⟩ : ByteArray).size = 1 from rfl]; omega)
  have a2 := strAdd (⟨#[123]⟩ ++ decB p.toNat) ⟨#[47]⟩ (by simp only [ByteArray.size_append]; rw [show (⟨#[123]⟩ : ByteArray).size = 1 from rfl, show (⟨#[47]⟩ : ByteArray).size = 1 from rfl]; omega)
  have a3 := strAdd (⟨#[123]⟩ ++ decB p.toNat ++ ⟨#[47]⟩) (decB s.toNat) (by simp only [ByteArray.size_append]; rw [show (⟨#[123]⟩ : ByteArray).size = 1 from rfl, show (⟨#[47]⟩ : ByteArray).size = 1 from rfl]; omega)
  have a4 := strAdd (⟨#[123]⟩ ++ decB p.toNat ++ ⟨#[47]⟩ ++ decB s.toNat) ⟨#[125]⟩ (by simp only [ByteArray.size_append]; rw [show (⟨#[123]⟩ : ByteArray).size = 1 from rfl, show (⟨#[47]⟩ : ByteArray).size = 1 from rfl, show (⟨#[125]⟩ : ByteArray).size = 1 from rfl]; omega)
  go_enter Tryd.func12, Tryd.ntmps12
  go_wp2
  go_region_held3 (fun w' => w'.cell? ⟨w.heap.size, 0, none⟩ = some (.int .i64 p) ∧ w'.cell? ⟨w.heap.size, 1, none⟩ = some (.int .i64 s)) (go_keep)
    (first | (go_at_call 22; refine (l1Num_any _ _ (by omega) (by omega)).mono ?_; rintro e w1 ⟨rfl, hb⟩; (have c0 : w1.cell? ⟨w.heap.size, 0, none⟩ = some (.int .i64 p) := cellB hb (by first | assumption | go_simp)); (have c1 : w1.cell? ⟨w.heap.size, 1, none⟩ = some (.int .i64 s) := cellB hb (by first | assumption | go_simp)); (have hz : w.heap.size < w1.heap.size := by (have := hb.size; (try simp at this); omega)); (have hB : Below w.heap.size w w1 := by (refine Below.trans ?_ (hb.mono (by first | (simp; done) | omega | (simp; omega))); go_grown)); clear hb))
  all_goals
    go_wp2
    go_ret
    exact ⟨rfl, by go_grown⟩

set_option maxHeartbeats 400000 in
theorem sStarText_yes (p s : Int) (w : World) (h : 3 ≤ p ∧ p ≤ 60 ∧ 1 ≤ s ∧ s < p) :
    Calls Tryd.prog 5 #[.agg #[.int .i64 p, .int .i64 s]] w fun e w' => e = .returned (.tuple #[.string (starB p s), .bool true]) ∧ Below w.heap.size w w' := by
  go_enter Tryd.func5, Tryd.ntmps5
  go_wp2_with (first | (go_at_call 11; (with_reducible refine (srGood_yes _ _ _ h).mono ?_); rintro e w1 ⟨rfl, hb⟩; (have c0 : w1.cell? ⟨w.heap.size, 0, none⟩ = some (.int .i64 p) := cellB hb (by first | assumption | go_simp)); (have c1 : w1.cell? ⟨w.heap.size, 1, none⟩ = some (.int .i64 s) := cellB hb (by first | assumption | go_simp)); (have hz : w.heap.size < w1.heap.size := by (have := hb.size; (try simp at this); omega)); (have hB : Below w.heap.size w w1 := by (refine Below.trans ?_ (hb.mono (by first | (simp; done) | omega | (simp; omega))); go_grown)); clear hb) | (go_at_call 12; (with_reducible refine (srText_any _ _ _ h).mono ?_); rintro e w1 ⟨rfl, hb⟩; (have c0 : w1.cell? ⟨w.heap.size, 0, none⟩ = some (.int .i64 p) := cellB hb (by first | assumption | go_simp)); (have c1 : w1.cell? ⟨w.heap.size, 1, none⟩ = some (.int .i64 s) := cellB hb (by first | assumption | go_simp)); (have hz : w.heap.size < w1.heap.size := by (have := hb.size; (try simp at this); omega)); (have hB : Below w.heap.size w w1 := by (refine Below.trans ?_ (hb.mono (by first | (simp; done) | omega | (simp; omega))); go_grown)); clear hb))
  go_ret2
  exact ⟨rfl, hB⟩

set_option maxHeartbeats 400000 in
theorem sStarText_no (p s : Int) (w : World) (h : ¬ (3 ≤ p ∧ p ≤ 60 ∧ 1 ≤ s ∧ s < p)) :
    Calls Tryd.prog 5 #[.agg #[.int .i64 p, .int .i64 s]] w fun e w' => e = .returned (.tuple #[.string ⟨#[]⟩, .bool false]) ∧ Below w.heap.size w w' := by
  go_enter Tryd.func5, Tryd.ntmps5
  go_wp2_with (first | (go_at_call 11; (with_reducible refine (srGood_no _ _ _ h).mono ?_); rintro e w1 ⟨rfl, hb⟩; (have c0 : w1.cell? ⟨w.heap.size, 0, none⟩ = some (.int .i64 p) := cellB hb (by first | assumption | go_simp)); (have c1 : w1.cell? ⟨w.heap.size, 1, none⟩ = some (.int .i64 s) := cellB hb (by first | assumption | go_simp)); (have hz : w.heap.size < w1.heap.size := by (have := hb.size; (try simp at this); omega)); (have hB : Below w.heap.size w w1 := by (refine Below.trans ?_ (hb.mono (by first | (simp; done) | omega | (simp; omega))); go_grown)); clear hb))
  go_ret2
  exact ⟨rfl, hB⟩

set_option maxHeartbeats 400000 in
theorem core_StarText (p s : Int) (t : ByteArray) (b : Bool) (w : World)
    (hs : ∀ W, Calls Tryd.prog 5 #[.agg #[.int .i64 p, .int .i64 s]] W fun e w' => e = .returned (.tuple #[.string t, .bool b]) ∧ Below W.heap.size W w')
    (hi : ∀ W, Calls Tryd.prog 7 #[.agg #[.int .i64 p, .int .i64 s]] W fun e w' => e = .returned (.tuple #[.string t, .bool b]) ∧ Below W.heap.size W w') :
    Calls Tryd.prog 3 #[.agg #[.int .i64 p, .int .i64 s]] w fun e w' => e = .returned (.bool true) ∧ Below w.heap.size w w' := by
  have HS := Lib.hid hs
  have HI := Lib.hid hi
  clear hs hi
  go_enter Tryd.func3, Tryd.ntmps3
  go_wp2_with (first | (go_at_call 6; (with_reducible refine (toStar_any _ _ _).mono ?_); rintro e w1 ⟨rfl, hb⟩; (have c0 : w1.cell? ⟨w.heap.size, 0, none⟩ = some (.int .i64 p) := cellB hb (by first | assumption | go_simp)); (have c1 : w1.cell? ⟨w.heap.size, 1, none⟩ = some (.int .i64 s) := cellB hb (by first | assumption | go_simp)); (have hz : w.heap.size < w1.heap.size := by (have := hb.size; (try simp at this); omega)); (have hB : Below w.heap.size w w1 := by (refine Below.trans ?_ (hb.mono (by first | (simp; done) | omega | (simp; omega))); go_grown)); clear hb) | (go_at_call 5; (with_reducible refine (HS.out _).mono ?_); rintro e w1 ⟨rfl, hb⟩; (have c0 : w1.cell? ⟨w.heap.size, 0, none⟩ = some (.int .i64 p) := cellB hb (by first | assumption | go_simp)); (have c1 : w1.cell? ⟨w.heap.size, 1, none⟩ = some (.int .i64 s) := cellB hb (by first | assumption | go_simp)); (have hz : w.heap.size < w1.heap.size := by (have := hb.size; (try simp at this); omega)); (have hB : Below w.heap.size w w1 := by (refine Below.trans ?_ (hb.mono (by first | (simp; done) | omega | (simp; omega))); go_grown)); clear hb) | (go_at_call 7; (with_reducible refine (HI.out _).mono ?_); rintro e w1 ⟨rfl, hb⟩; (have c0 : w1.cell? ⟨w.heap.size, 0, none⟩ = some (.int .i64 p) := cellB hb (by first | assumption | go_simp)); (have c1 : w1.cell? ⟨w.heap.size, 1, none⟩ = some (.int .i64 s) := cellB hb (by first | assumption | go_simp)); (have hz : w.heap.size < w1.heap.size := by (have := hb.size; (try simp at this); omega)); (have hB : Below w.heap.size w w1 := by (refine Below.trans ?_ (hb.mono (by first | (simp; done) | omega | (simp; omega))); go_grown)); clear hb))
  go_ret
  exact ⟨rfl, hB⟩

theorem walk_StarText (p s : Int) (w : World) (_ : (Lit.int .i64 p).wf = true) (_ : (Lit.int .i64 s).wf = true) :
    Calls Tryd.prog 3 #[.agg #[.int .i64 p, .int .i64 s]] w fun e w' => e = .returned (.bool true) ∧ Below w.heap.size w w' := by
  by_cases h : 3 ≤ p ∧ p ≤ 60 ∧ 1 ≤ s ∧ s < p
  · exact core_StarText _ _ _ _ w (fun W => sStarText_yes _ _ W h) (fun W => iStarText_yes _ _ W h)
  · exact core_StarText _ _ _ _ w (fun W => sStarText_no _ _ W h) (fun W => iStarText_no _ _ W h)

end Go.Proofs.YtjpillccpnjdiabDoor
