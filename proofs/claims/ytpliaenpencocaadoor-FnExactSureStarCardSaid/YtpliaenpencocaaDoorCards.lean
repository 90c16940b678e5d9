/-
  DERIVED. GIVEN WITH THE SEED: THE CARDS: each row of YtpliaenpencocaaDoorRows.lean that lists a variable, with what it lists TIED to the program's text (the seventh form; the later family's looks); each row that meets fmt, with fmt's text TOLD by the authors' own Lean function (tested against real Go, not proved from fmt's source: count such statements apart). THE CARD IS WHAT COUNTS. Prove the row's statement (the work); the ties are given (YtpliaenpencocaaDoorTie.lean); close each card by the builder's one call (the guide's Derived/Test/ToyasCard.lean, 'card_holds'). Laid BY PROGRAM, IN A SANDBOX (cutbox-door.mjs). By AI agents, Wed Nov 11 2026. No macro, syntax, notation, axiom, sorry.
-/
import Derived.Test.YtpliaenpencocaaDoorRows
import GoSem.ClaimSeven
namespace Go.Proofs.YtpliaenpencocaaDoor
namespace Rows

/-- THE TIED CARD OF 'laws.FnExactIsClue'. -/
def fnExactIsClueCard : Claim7 := { stood := { row := fnExactIsClueRow, standIns := [], harness := (true, "000d88736f7fe06778187216e4b596da103ba477d7d1093dd7d3e3c1af8c62ba"), looks := true }, kinds := [], alts := [], laidByText := true, laidKinds := [.data], laidTests := true, laidLooks := .later }
def FnExactIsClueCardSaid : Prop := Claim7.holds Tryd.pinned (.plain (OpenSpec.ofChange fnExactIsClueSpec)) fnExactIsClueCard

/-- THE TIED CARD OF 'laws.FnExactIsPuzzle'. -/
def fnExactIsPuzzleCard : Claim7 := { stood := { row := fnExactIsPuzzleRow, standIns := [], harness := (true, "000d88736f7fe06778187216e4b596da103ba477d7d1093dd7d3e3c1af8c62ba"), looks := true }, kinds := [], alts := [], laidByText := true, laidKinds := [.data], laidTests := true, laidLooks := .later }
def FnExactIsPuzzleCardSaid : Prop := Claim7.holds Tryd.pinned (.plain (OpenSpec.ofChange fnExactIsPuzzleSpec)) fnExactIsPuzzleCard

/-- THE TIED CARD OF 'laws.FnExactDoesFit'. -/
def fnExactDoesFitCard : Claim7 := { stood := { row := fnExactDoesFitRow, standIns := [], harness := (true, "000d88736f7fe06778187216e4b596da103ba477d7d1093dd7d3e3c1af8c62ba"), looks := true }, kinds := [], alts := [], laidByText := true, laidKinds := [.data], laidTests := true, laidLooks := .later }
def FnExactDoesFitCardSaid : Prop := Claim7.holds Tryd.pinned (.plain (OpenSpec.ofChange fnExactDoesFitSpec)) fnExactDoesFitCard

/-- THE TIED CARD OF 'laws.FnExactSolutions'. -/
def fnExactSolutionsCard : Claim7 := { stood := { row := fnExactSolutionsRow, standIns := [], harness := (true, "000d88736f7fe06778187216e4b596da103ba477d7d1093dd7d3e3c1af8c62ba"), looks := true }, kinds := [], alts := [], laidByText := true, laidKinds := [.data], laidTests := true, laidLooks := .later }
def FnExactSolutionsCardSaid : Prop := Claim7.holds Tryd.pinned (.plain (OpenSpec.ofChange fnExactSolutionsSpec)) fnExactSolutionsCard

/-- THE TIED CARD OF 'laws.FnExactCountSolutions'. -/
def fnExactCountSolutionsCard : Claim7 := { stood := { row := fnExactCountSolutionsRow, standIns := [], harness := (true, "000d88736f7fe06778187216e4b596da103ba477d7d1093dd7d3e3c1af8c62ba"), looks := true }, kinds := [], alts := [], laidByText := true, laidKinds := [.data], laidTests := true, laidLooks := .later }
def FnExactCountSolutionsCardSaid : Prop := Claim7.holds Tryd.pinned (.plain (OpenSpec.ofChange fnExactCountSolutionsSpec)) fnExactCountSolutionsCard

/-- THE TIED CARD OF 'laws.FnExactFirstSolution'. -/
def fnExactFirstSolutionCard : Claim7 := { stood := { row := fnExactFirstSolutionRow, standIns := [], harness := (true, "000d88736f7fe06778187216e4b596da103ba477d7d1093dd7d3e3c1af8c62ba"), looks := true }, kinds := [], alts := [], laidByText := true, laidKinds := [.data], laidTests := true, laidLooks := .later }
def FnExactFirstSolutionCardSaid : Prop := Claim7.holds Tryd.pinned (.plain (OpenSpec.ofChange fnExactFirstSolutionSpec)) fnExactFirstSolutionCard

/-- THE TIED CARD OF 'laws.FnExactSureStar'. -/
def fnExactSureStarCard : Claim7 := { stood := { row := fnExactSureStarRow, standIns := [], harness := (true, "000d88736f7fe06778187216e4b596da103ba477d7d1093dd7d3e3c1af8c62ba"), looks := true }, kinds := [], alts := [], laidByText := true, laidKinds := [.data], laidTests := true, laidLooks := .later }
def FnExactSureStarCardSaid : Prop := Claim7.holds Tryd.pinned (.plain (OpenSpec.ofChange fnExactSureStarSpec)) fnExactSureStarCard

/-- THE TIED CARD OF 'laws.FnExactIsSolved'. -/
def fnExactIsSolvedCard : Claim7 := { stood := { row := fnExactIsSolvedRow, standIns := [], harness := (true, "000d88736f7fe06778187216e4b596da103ba477d7d1093dd7d3e3c1af8c62ba"), looks := true }, kinds := [], alts := [], laidByText := true, laidKinds := [.data], laidTests := true, laidLooks := .later }
def FnExactIsSolvedCardSaid : Prop := Claim7.holds Tryd.pinned (.plain (OpenSpec.ofChange fnExactIsSolvedSpec)) fnExactIsSolvedCard

/-- THE TIED CARD OF 'laws.FnExactNeedlessClues'. -/
def fnExactNeedlessCluesCard : Claim7 := { stood := { row := fnExactNeedlessCluesRow, standIns := [], harness := (true, "000d88736f7fe06778187216e4b596da103ba477d7d1093dd7d3e3c1af8c62ba"), looks := true }, kinds := [], alts := [], laidByText := true, laidKinds := [.data], laidTests := true, laidLooks := .later }
def FnExactNeedlessCluesCardSaid : Prop := Claim7.holds Tryd.pinned (.plain (OpenSpec.ofChange fnExactNeedlessCluesSpec)) fnExactNeedlessCluesCard

/-- THE TIED CARD OF 'laws.FnExactDropClue'. -/
def fnExactDropClueCard : Claim7 := { stood := { row := fnExactDropClueRow, standIns := [], harness := (true, "000d88736f7fe06778187216e4b596da103ba477d7d1093dd7d3e3c1af8c62ba"), looks := true }, kinds := [], alts := [], laidByText := true, laidKinds := [.data], laidTests := true, laidLooks := .later }
def FnExactDropClueCardSaid : Prop := Claim7.holds Tryd.pinned (.plain (OpenSpec.ofChange fnExactDropClueSpec)) fnExactDropClueCard

/-- THE TIED CARD OF 'laws.FnExactAddClue'. -/
def fnExactAddClueCard : Claim7 := { stood := { row := fnExactAddClueRow, standIns := [], harness := (true, "000d88736f7fe06778187216e4b596da103ba477d7d1093dd7d3e3c1af8c62ba"), looks := true }, kinds := [], alts := [], laidByText := true, laidKinds := [.data], laidTests := true, laidLooks := .later }
def FnExactAddClueCardSaid : Prop := Claim7.holds Tryd.pinned (.plain (OpenSpec.ofChange fnExactAddClueSpec)) fnExactAddClueCard

/-- THE TIED CARD OF 'laws.FnExactLeftByClues'. -/
def fnExactLeftByCluesCard : Claim7 := { stood := { row := fnExactLeftByCluesRow, standIns := [], harness := (true, "000d88736f7fe06778187216e4b596da103ba477d7d1093dd7d3e3c1af8c62ba"), looks := true }, kinds := [], alts := [], laidByText := true, laidKinds := [.data], laidTests := true, laidLooks := .later }
def FnExactLeftByCluesCardSaid : Prop := Claim7.holds Tryd.pinned (.plain (OpenSpec.ofChange fnExactLeftByCluesSpec)) fnExactLeftByCluesCard

/-- THE SECOND FORM's CARD OF 'laws.FnExactIsClue'. -/
def fnExactIsClueUptoCard : Claim7 := { stood := { row := fnExactIsClueUptoRow, standIns := [], harness := (true, "000d88736f7fe06778187216e4b596da103ba477d7d1093dd7d3e3c1af8c62ba"), looks := true }, kinds := [], alts := [], laidByText := true, laidKinds := [.data], laidTests := true, laidLooks := .later }
def FnExactIsClueUptoCardSaid : Prop := Claim7.holds Tryd.pinned (.plain (OpenSpec.upto fnExactIsClueSpec)) fnExactIsClueUptoCard

/-- THE SECOND FORM's CARD OF 'laws.FnExactIsPuzzle'. -/
def fnExactIsPuzzleUptoCard : Claim7 := { stood := { row := fnExactIsPuzzleUptoRow, standIns := [], harness := (true, "000d88736f7fe06778187216e4b596da103ba477d7d1093dd7d3e3c1af8c62ba"), looks := true }, kinds := [], alts := [], laidByText := true, laidKinds := [.data], laidTests := true, laidLooks := .later }
def FnExactIsPuzzleUptoCardSaid : Prop := Claim7.holds Tryd.pinned (.plain (OpenSpec.upto fnExactIsPuzzleSpec)) fnExactIsPuzzleUptoCard

/-- THE SECOND FORM's CARD OF 'laws.FnExactDoesFit'. -/
def fnExactDoesFitUptoCard : Claim7 := { stood := { row := fnExactDoesFitUptoRow, standIns := [], harness := (true, "000d88736f7fe06778187216e4b596da103ba477d7d1093dd7d3e3c1af8c62ba"), looks := true }, kinds := [], alts := [], laidByText := true, laidKinds := [.data], laidTests := true, laidLooks := .later }
def FnExactDoesFitUptoCardSaid : Prop := Claim7.holds Tryd.pinned (.plain (OpenSpec.upto fnExactDoesFitSpec)) fnExactDoesFitUptoCard

/-- THE SECOND FORM's CARD OF 'laws.FnExactSolutions'. -/
def fnExactSolutionsUptoCard : Claim7 := { stood := { row := fnExactSolutionsUptoRow, standIns := [], harness := (true, "000d88736f7fe06778187216e4b596da103ba477d7d1093dd7d3e3c1af8c62ba"), looks := true }, kinds := [], alts := [], laidByText := true, laidKinds := [.data], laidTests := true, laidLooks := .later }
def FnExactSolutionsUptoCardSaid : Prop := Claim7.holds Tryd.pinned (.plain (OpenSpec.upto fnExactSolutionsSpec)) fnExactSolutionsUptoCard

/-- THE SECOND FORM's CARD OF 'laws.FnExactCountSolutions'. -/
def fnExactCountSolutionsUptoCard : Claim7 := { stood := { row := fnExactCountSolutionsUptoRow, standIns := [], harness := (true, "000d88736f7fe06778187216e4b596da103ba477d7d1093dd7d3e3c1af8c62ba"), looks := true }, kinds := [], alts := [], laidByText := true, laidKinds := [.data], laidTests := true, laidLooks := .later }
def FnExactCountSolutionsUptoCardSaid : Prop := Claim7.holds Tryd.pinned (.plain (OpenSpec.upto fnExactCountSolutionsSpec)) fnExactCountSolutionsUptoCard

/-- THE SECOND FORM's CARD OF 'laws.FnExactFirstSolution'. -/
def fnExactFirstSolutionUptoCard : Claim7 := { stood := { row := fnExactFirstSolutionUptoRow, standIns := [], harness := (true, "000d88736f7fe06778187216e4b596da103ba477d7d1093dd7d3e3c1af8c62ba"), looks := true }, kinds := [], alts := [], laidByText := true, laidKinds := [.data], laidTests := true, laidLooks := .later }
def FnExactFirstSolutionUptoCardSaid : Prop := Claim7.holds Tryd.pinned (.plain (OpenSpec.upto fnExactFirstSolutionSpec)) fnExactFirstSolutionUptoCard

/-- THE SECOND FORM's CARD OF 'laws.FnExactSureStar'. -/
def fnExactSureStarUptoCard : Claim7 := { stood := { row := fnExactSureStarUptoRow, standIns := [], harness := (true, "000d88736f7fe06778187216e4b596da103ba477d7d1093dd7d3e3c1af8c62ba"), looks := true }, kinds := [], alts := [], laidByText := true, laidKinds := [.data], laidTests := true, laidLooks := .later }
def FnExactSureStarUptoCardSaid : Prop := Claim7.holds Tryd.pinned (.plain (OpenSpec.upto fnExactSureStarSpec)) fnExactSureStarUptoCard

/-- THE SECOND FORM's CARD OF 'laws.FnExactIsSolved'. -/
def fnExactIsSolvedUptoCard : Claim7 := { stood := { row := fnExactIsSolvedUptoRow, standIns := [], harness := (true, "000d88736f7fe06778187216e4b596da103ba477d7d1093dd7d3e3c1af8c62ba"), looks := true }, kinds := [], alts := [], laidByText := true, laidKinds := [.data], laidTests := true, laidLooks := .later }
def FnExactIsSolvedUptoCardSaid : Prop := Claim7.holds Tryd.pinned (.plain (OpenSpec.upto fnExactIsSolvedSpec)) fnExactIsSolvedUptoCard

/-- THE SECOND FORM's CARD OF 'laws.FnExactNeedlessClues'. -/
def fnExactNeedlessCluesUptoCard : Claim7 := { stood := { row := fnExactNeedlessCluesUptoRow, standIns := [], harness := (true, "000d88736f7fe06778187216e4b596da103ba477d7d1093dd7d3e3c1af8c62ba"), looks := true }, kinds := [], alts := [], laidByText := true, laidKinds := [.data], laidTests := true, laidLooks := .later }
def FnExactNeedlessCluesUptoCardSaid : Prop := Claim7.holds Tryd.pinned (.plain (OpenSpec.upto fnExactNeedlessCluesSpec)) fnExactNeedlessCluesUptoCard

/-- THE SECOND FORM's CARD OF 'laws.FnExactDropClue'. -/
def fnExactDropClueUptoCard : Claim7 := { stood := { row := fnExactDropClueUptoRow, standIns := [], harness := (true, "000d88736f7fe06778187216e4b596da103ba477d7d1093dd7d3e3c1af8c62ba"), looks := true }, kinds := [], alts := [], laidByText := true, laidKinds := [.data], laidTests := true, laidLooks := .later }
def FnExactDropClueUptoCardSaid : Prop := Claim7.holds Tryd.pinned (.plain (OpenSpec.upto fnExactDropClueSpec)) fnExactDropClueUptoCard

/-- THE SECOND FORM's CARD OF 'laws.FnExactAddClue'. -/
def fnExactAddClueUptoCard : Claim7 := { stood := { row := fnExactAddClueUptoRow, standIns := [], harness := (true, "000d88736f7fe06778187216e4b596da103ba477d7d1093dd7d3e3c1af8c62ba"), looks := true }, kinds := [], alts := [], laidByText := true, laidKinds := [.data], laidTests := true, laidLooks := .later }
def FnExactAddClueUptoCardSaid : Prop := Claim7.holds Tryd.pinned (.plain (OpenSpec.upto fnExactAddClueSpec)) fnExactAddClueUptoCard

/-- THE SECOND FORM's CARD OF 'laws.FnExactLeftByClues'. -/
def fnExactLeftByCluesUptoCard : Claim7 := { stood := { row := fnExactLeftByCluesUptoRow, standIns := [], harness := (true, "000d88736f7fe06778187216e4b596da103ba477d7d1093dd7d3e3c1af8c62ba"), looks := true }, kinds := [], alts := [], laidByText := true, laidKinds := [.data], laidTests := true, laidLooks := .later }
def FnExactLeftByCluesUptoCardSaid : Prop := Claim7.holds Tryd.pinned (.plain (OpenSpec.upto fnExactLeftByCluesSpec)) fnExactLeftByCluesUptoCard
end Rows
end Go.Proofs.YtpliaenpencocaaDoor
