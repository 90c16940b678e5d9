/- The region at an arc, by the program. -/
import Derived.Test.YtnldnjgnpdicnaaRM
import Derived.Test.YtnldnjgnpdicnaaW2
import Derived.Deep.RegionHeld3
namespace Go.Proofs.Ytnldnjgnpdicnaa
open Go.RowKit
set_option linter.unusedVariables false

set_option maxHeartbeats 400000 in
theorem chordBt_any (a b : Int) (w : World) :
    Calls Try.prog 90 #[.int .i64 a, .int .i64 b] w fun e w' => e = .returned (.agg #[.int .i64 (min a b), .int .i64 (max a b)]) ∧ Below w.heap.size w w' := by
  rcases Int.lt_trichotomy a b with h | h | h
  · have h1 : min a b = a := by omega
    have h2 : max a b = b := by omega
    have h3 : ¬ b < a := by omega
    go_enter Try.func90, Try.ntmps90
    go_wp2
    go_returns
    exact ⟨rfl, by go_grown⟩
  · subst h
    have h1 : min a a = a := by omega
    have h2 : max a a = a := by omega
    go_enter Try.func90, Try.ntmps90
    go_wp2
    go_returns
    exact ⟨by rw [h1, h2], by go_grown⟩
  · have h1 : min a b = b := by omega
    have h2 : max a b = a := by omega
    have h3 : ¬ a < b := by omega
    go_enter Try.func90, Try.ntmps90
    go_wp2
    go_returns
    exact ⟨rfl, by go_grown⟩

theorem cmpI_lt (a b : Nat) : cmpI (a : Int) (b : Int) < 0 ↔ a < b := by
  unfold cmpI
  split
  · omega
  · split <;> omega

theorem minN_step (f : Nat → Nat) (m : Nat) (t : List Nat) (k : Nat) (hk : k < t.length) : minN f m (t.take (k + 1)) = if f (t.getD k 0) < f (minN f m (t.take k)) then t.getD k 0 else minN f m (t.take k) := by
  unfold minN
  rw [List.take_succ_eq_append_getElem hk, List.foldl_append, List.getD_eq_getElem?_getD, List.getElem?_eq_getElem hk]
  rfl

theorem minN_mem (f : Nat → Nat) (t : List Nat) : ∀ m, minN f m t ∈ m :: t := by
  induction t with
  | nil => intro m; simp [minN]
  | cons x t ih =>
    intro m
    have e : minN f m (x :: t) = minN f (if f x < f m then x else m) t := rfl
    rw [e]
    split
    · exact List.mem_cons_of_mem _ (ih x)
    · rcases List.mem_cons.1 (ih m) with h | h
      · rw [h]; simp
      · simp [h]

/-- The chord along the arc i. -/
def arcC (n i : Nat) : Int × Int := (min (i : Int) (((i : Int) + 1) % (n : Int)), max (i : Int) (((i : Int) + 1) % (n : Int)))

theorem arcC_arc {n i : Nat} (hn : 3 ≤ n) (hi : i < n) : IsArc n (arcC n i) := by
  unfold IsArc arcC
  simp only
  by_cases e : i + 1 = n
  · have e2 : ((i : Int) + 1) % (n : Int) = 0 := by rw [show (i : Int) + 1 = (n : Int) by omega]; exact Int.emod_self
    rw [e2]
    omega
  · have e2 : ((i : Int) + 1) % (n : Int) = (i : Int) + 1 := Int.emod_eq_of_lt (by omega) (by omega)
    rw [e2]
    omega

theorem sel_cast (c : Nat → Bool) (n : Nat) (S : List Nat) (h : (List.range n).filter c = S) : selT c n = S.map fun (x : Nat) => (x : Int) := by
  unfold selT
  rw [h]