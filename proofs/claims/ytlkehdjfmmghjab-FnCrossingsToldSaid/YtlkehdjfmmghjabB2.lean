/- Slices of integers that a call made itself: more. Nothing of the program. -/
import Derived.Test.YtlkehdjfmmghjabB1
namespace Go.Proofs.Ytlkehdjfmmghjab
open Go.RowKit

theorem Ints.cellKept {w w' : World} {B : Nat} {e : TypeId} {v : Value} {xs : List Int} (h : Ints w B e v xs) (hg : w.grownBy w' v.ownBlock) {b o : Nat} {x : Value} (hb : b < B) (hc : w.cell? ⟨b, o, none⟩ = some x) : w'.cell? ⟨b, o, none⟩ = some x :=
  hg.cell hc fun hk => by
    have := (h.own b hk.symm).1
    omega

end Go.Proofs.Ytlkehdjfmmghjab
