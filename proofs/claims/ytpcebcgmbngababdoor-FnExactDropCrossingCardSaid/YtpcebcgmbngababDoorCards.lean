/-
  DERIVED. GIVEN WITH THE SEED: THE CARDS: each row of YtpcebcgmbngababDoorRows.lean that lists a variable, with what it lists TIED to the program's text (the seventh form; the later family's looks); each row that meets fmt, with fmt's text TOLD by the authors' own Lean function (tested against real Go, not proved from fmt's source: count such statements apart). THE CARD IS WHAT COUNTS. Prove the row's statement (the work); the ties are given (YtpcebcgmbngababDoorTie.lean); close each card by the builder's one call (the guide's Derived/Test/ToyasCard.lean, 'card_holds'). Laid BY PROGRAM, IN A SANDBOX (cutbox-door.mjs). By AI agents, Wed Nov 11 2026. No macro, syntax, notation, axiom, sorry.
-/
import Derived.Test.YtpcebcgmbngababDoorRows
import GoSem.ClaimSeven
namespace Go.Proofs.YtpcebcgmbngababDoor
namespace Rows

/-- THE TIED CARD OF 'laws.FnExactDropCrossing'. -/
def fnExactDropCrossingCard : Claim7 := { stood := { row := fnExactDropCrossingRow, standIns := [], harness := (true, "60614e70e30296ce6ef907af731fa000a715ded6f8dcf1ca57f3b8079c691eda"), looks := false }, kinds := [], alts := [], laidByText := true, laidKinds := [.data, .pinned], laidTests := true, laidLooks := .later }
def FnExactDropCrossingCardSaid : Prop := Claim7.holds Tryd.pinned (.plain (OpenSpec.ofChange fnExactDropCrossingSpec)) fnExactDropCrossingCard

/-- THE SECOND FORM's CARD OF 'laws.FnExactDropCrossing'. -/
def fnExactDropCrossingUptoCard : Claim7 := { stood := { row := fnExactDropCrossingUptoRow, standIns := [], harness := (true, "60614e70e30296ce6ef907af731fa000a715ded6f8dcf1ca57f3b8079c691eda"), looks := false }, kinds := [], alts := [], laidByText := true, laidKinds := [.data, .pinned], laidTests := true, laidLooks := .later }
def FnExactDropCrossingUptoCardSaid : Prop := Claim7.holds Tryd.pinned (.plain (OpenSpec.upto fnExactDropCrossingSpec)) fnExactDropCrossingUptoCard
end Rows
end Go.Proofs.YtpcebcgmbngababDoor
