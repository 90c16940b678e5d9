/-
  DERIVED. GIVEN WITH THE SEED: THE CARDS: each row of YtnnhjnogebicbabDoorRows.lean that lists a variable, with what it lists TIED to the program's text (the seventh form; the later family's looks); each row that meets fmt, with fmt's text TOLD by the authors' own Lean function (tested against real Go, not proved from fmt's source: count such statements apart). THE CARD IS WHAT COUNTS. Prove the row's statement (the work); the ties are given (YtnnhjnogebicbabDoorTie.lean); close each card by the builder's one call (the guide's Derived/Test/ToyasCard.lean, 'card_holds'). Laid BY PROGRAM, IN A SANDBOX (cutbox-door.mjs). By AI agents, Wed Nov 11 2026. No macro, syntax, notation, axiom, sorry.
-/
import Derived.Test.YtnnhjnogebicbabDoorRows
import GoSem.ClaimSeven
namespace Go.Proofs.YtnnhjnogebicbabDoor
namespace Rows

/-- THE TIED CARD OF 'laws.FnExactParseStar'. -/
def fnExactParseStarCard : Claim7 := { stood := { row := fnExactParseStarRow, standIns := [], harness := (true, "b7c053c0fc2218195624362dcc927d2d926e9524a1409d3ae997ab5b56b317cc"), looks := true }, kinds := [], alts := [], laidByText := true, laidKinds := [.data, .data, .data, .sentinel, .sentinel], laidTests := true, laidLooks := .later }
def FnExactParseStarCardSaid : Prop := Claim7.holds Tryd.pinned (.plain (OpenSpec.ofChange fnExactParseStarSpec)) fnExactParseStarCard

/-- THE TIED CARD OF 'laws.FnExactParseChords'. -/
def fnExactParseChordsCard : Claim7 := { stood := { row := fnExactParseChordsRow, standIns := [], harness := (true, "b7c053c0fc2218195624362dcc927d2d926e9524a1409d3ae997ab5b56b317cc"), looks := true }, kinds := [], alts := [], laidByText := true, laidKinds := [.data, .data, .data, .data, .sentinel, .sentinel, .pinned], laidTests := true, laidLooks := .later }
def FnExactParseChordsCardSaid : Prop := Claim7.holds Tryd.pinned (.plain (OpenSpec.ofChange fnExactParseChordsSpec)) fnExactParseChordsCard

/-- THE SECOND FORM's CARD OF 'laws.FnExactParseStar'. -/
def fnExactParseStarUptoCard : Claim7 := { stood := { row := fnExactParseStarUptoRow, standIns := [], harness := (true, "b7c053c0fc2218195624362dcc927d2d926e9524a1409d3ae997ab5b56b317cc"), looks := true }, kinds := [], alts := [], laidByText := true, laidKinds := [.data, .data, .data, .sentinel, .sentinel], laidTests := true, laidLooks := .later }
def FnExactParseStarUptoCardSaid : Prop := Claim7.holds Tryd.pinned (.plain (OpenSpec.upto fnExactParseStarSpec)) fnExactParseStarUptoCard

/-- THE SECOND FORM's CARD OF 'laws.FnExactParseChords'. -/
def fnExactParseChordsUptoCard : Claim7 := { stood := { row := fnExactParseChordsUptoRow, standIns := [], harness := (true, "b7c053c0fc2218195624362dcc927d2d926e9524a1409d3ae997ab5b56b317cc"), looks := true }, kinds := [], alts := [], laidByText := true, laidKinds := [.data, .data, .data, .data, .sentinel, .sentinel, .pinned], laidTests := true, laidLooks := .later }
def FnExactParseChordsUptoCardSaid : Prop := Claim7.holds Tryd.pinned (.plain (OpenSpec.upto fnExactParseChordsSpec)) fnExactParseChordsUptoCard
end Rows
end Go.Proofs.YtnnhjnogebicbabDoor
