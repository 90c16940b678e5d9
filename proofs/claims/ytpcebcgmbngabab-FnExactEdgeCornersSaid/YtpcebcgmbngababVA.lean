/- What the laws do with slices of slices of integers: for seats without StringsOf. -/
import Derived.Test.YtpcebcgmbngababV7
import Derived.Test.YtpcebcgmbngababB6
namespace Go.Proofs.Ytpcebcgmbngabab
open Go.RowKit

theorem info_ints : (Try.prog.info? 39).map (fun i => (i.zero, i.size, i.bytes)) = some (some (.slice none 0 0), 1, 24) := by kernel_rfl

theorem giveRows {w w' : World} {v : Value} {xss : List (List Int)} (b : Bool) {B : Nat} (hI : RowsIn 39 3 w' B w'.heap.size v xss) (hB : w.heap.size = B) (hb : Below w.heap.size w w') : Gives (RowsIn 39 3) w xss b (.returned (.tuple #[v, .bool b])) w' :=
  ⟨v, rfl, by rw [hB]; exact hI, hb⟩

theorem giveNoRows {w w' : World} (hb : Below w.heap.size w w') : Gives (RowsIn 39 3) w [] false (.returned (.tuple #[.slice none 0 0, .bool false])) w' :=
  ⟨_, rfl, RowsIn.nil _ _ _ _ _, hb⟩

theorem eqIntSS_in (v1 v2 : Value) (xss : List (List Int)) (eo B1 T1 B2 T2 : Nat) (e : TypeId) (w : World) (h1 : RowsIn eo e w B1 T1 v1 xss) (h2 : RowsIn eo e w B2 T2 v2 xss) :
    Calls Try.prog 38 #[v1, v2] w fun e w' => e = .returned (.bool true) ∧ Below w.heap.size w w' :=
  (eqIntSS_same v1 v2 xss eo B1 T1 B2 T2 e w h1 h2).mono fun _ _ ⟨he, q, hq⟩ => ⟨he, by rw [hq]; exact bdn (Below.refl _ _) q⟩

theorem heldIntSS_in (v : Value) (xss : List (List Int)) (m : Int) (eo e : TypeId) (B T : Nat) (w : World) (h : RowsIn eo e w B T v (markedRows m xss xss.length)) (hm1 : 0 ≤ m) (hm2 : m ≤ 1000000) (hn : cellsOf xss ≤ 1000000) (hr : xss.length ≤ 1000000) :
    Calls Try.prog 40 #[v, .int .i64 m] w fun e' w' => e' = .returned (.int .i64 (m + cellsOf xss)) ∧ Below w.heap.size w w' :=
  (heldIntSS_marks v xss m eo e B T w h hm1 hm2 hn hr).mono fun _ _ ⟨he, hq⟩ => ⟨he, by rw [← hq]; exact Below.refl _ _⟩

end Go.Proofs.Ytpcebcgmbngabab
