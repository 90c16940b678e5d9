/- What the laws do with slices of integers. -/
import Derived.Test.YtnldnjgnpdicnaaV1
import Derived.Test.YtnldnjgnpdicnaaBA
namespace Go.Proofs.Ytnldnjgnpdicnaa
open Go.RowKit

theorem info_int : (Try.prog.info? 3).map (fun i => (i.zero, i.size, i.bytes)) = some (some (.int .i64 0), 1, 8) := by kernel_rfl

set_option maxHeartbeats 400000 in
theorem markIntS_in (v : Value) (xs : List Int) (m : Int) (B T : Nat) (e : TypeId) (w : World) (h : IntsIn e w B T v xs) (hm1 : 0 ≤ m) (hm2 : m ≤ 1000000000) (hn : xs.length ≤ 1000000000) :
    Calls Try.prog 20 #[v, .int .i64 m] w fun e' w' => e' = .returned (.int .i64 (m + xs.length)) ∧ IntsIn e w' B T v (marks m xs.length) ∧ Only B T w w' :=
  (markIntS_any v xs m B e w h.1 hm1 hm2 hn).mono fun _ _ ⟨he, hI, hg⟩ => ⟨he, ⟨hI, h.2⟩, Only.of_grown hg h.own⟩

theorem giveInts {w w' : World} {v : Value} {xs : List Int} (b : Bool) {B : Nat} (hI : Ints w' B 3 v xs) (hB : w.heap.size ≤ B) (hb : Below w.heap.size w w') : Gives (IntsIn 3) w xs b (.returned (.tuple #[v, .bool b])) w' :=
  ⟨v, rfl, ⟨hI.mono hB, fun k hk => (hI.own k hk).2⟩, hb⟩

theorem giveNoInts {w w' : World} (hb : Below w.heap.size w w') : Gives (IntsIn 3) w [] false (.returned (.tuple #[.slice none 0 0, .bool false])) w' :=
  ⟨_, rfl, IntsIn.nil _ _ _ _, hb⟩

theorem eqIntS_in (v1 v2 : Value) (xs : List Int) (B1 T1 B2 T2 : Nat) (e : TypeId) (w : World) (h1 : IntsIn e w B1 T1 v1 xs) (h2 : IntsIn e w B2 T2 v2 xs) :
    Calls Try.prog 17 #[v1, v2] w fun e w' => e = .returned (.bool true) ∧ Below w.heap.size w w' :=
  (eqIntS_same v1 v2 xs B1 B2 e w h1.1 h2.1).mono fun _ _ ⟨he, q, hq⟩ => ⟨he, by rw [hq]; exact bdn (Below.refl _ _) q⟩

theorem heldIntS_in (v : Value) (m : Int) (n : Nat) (B T : Nat) (e : TypeId) (w : World) (h : IntsIn e w B T v (marks m n)) (hm1 : 0 ≤ m) (hm2 : m ≤ 1000000000) (hn : n ≤ 1000000000) :
    Calls Try.prog 21 #[v, .int .i64 m] w fun e w' => e = .returned (.int .i64 (m + n)) ∧ Below w.heap.size w w' :=
  (heldIntS_marks v m n B e w h.1 hm1 hm2 hn).mono fun _ _ ⟨he, hq⟩ => ⟨he, by rw [← hq]; exact Below.refl _ _⟩

end Go.Proofs.Ytnldnjgnpdicnaa
