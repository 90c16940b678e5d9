/-
  DERIVED. GIVEN WITH THE SEED: THE CARDS: each row of YtbgcbokddldmkaaDoorRows.lean that lists a variable, with what it lists TIED to the program's text (the seventh form; the later family's looks); each row that meets fmt, with fmt's text TOLD by the authors' own Lean function (tested against real Go, not proved from fmt's source: count such statements apart). THE CARD IS WHAT COUNTS. Prove the row's statement (the work); the ties are given (YtbgcbokddldmkaaDoorTie.lean); close each card by the builder's one call (the guide's Derived/Test/ToyasCard.lean, 'card_holds'). Laid BY PROGRAM, IN A SANDBOX (cutbox-door.mjs). By AI agents, Wed Nov 11 2026. No macro, syntax, notation, axiom, sorry.
-/
import Derived.Test.YtbgcbokddldmkaaDoorRows
import GoSem.ClaimSeven
namespace Go.Proofs.YtbgcbokddldmkaaDoor
namespace Rows

/-- THE TIED CARD OF 'laws.FnExactNeedlessClues'. -/
def fnExactNeedlessCluesCard : Claim7 := { stood := { row := fnExactNeedlessCluesRow, standIns := [], harness := (true, "2175b1daad9dcfadf5b5b87b344056ed34e7dbdb9bd5f3b9683f3ba8ce3eef95"), looks := true }, kinds := [], alts := [], laidByText := true, laidKinds := [.data], laidTests := true, laidLooks := .later }
def FnExactNeedlessCluesCardSaid : Prop := Claim7.holds Tryd.pinned (.plain (OpenSpec.ofChange fnExactNeedlessCluesSpec)) fnExactNeedlessCluesCard

/-- THE TIED CARD OF 'laws.FnExactDropClue'. -/
def fnExactDropClueCard : Claim7 := { stood := { row := fnExactDropClueRow, standIns := [], harness := (true, "2175b1daad9dcfadf5b5b87b344056ed34e7dbdb9bd5f3b9683f3ba8ce3eef95"), looks := true }, kinds := [], alts := [], laidByText := true, laidKinds := [.data], laidTests := true, laidLooks := .later }
def FnExactDropClueCardSaid : Prop := Claim7.holds Tryd.pinned (.plain (OpenSpec.ofChange fnExactDropClueSpec)) fnExactDropClueCard

/-- THE TIED CARD OF 'laws.FnExactAddClue'. -/
def fnExactAddClueCard : Claim7 := { stood := { row := fnExactAddClueRow, standIns := [], harness := (true, "2175b1daad9dcfadf5b5b87b344056ed34e7dbdb9bd5f3b9683f3ba8ce3eef95"), looks := true }, kinds := [], alts := [], laidByText := true, laidKinds := [.data], laidTests := true, laidLooks := .later }
def FnExactAddClueCardSaid : Prop := Claim7.holds Tryd.pinned (.plain (OpenSpec.ofChange fnExactAddClueSpec)) fnExactAddClueCard

/-- THE TIED CARD OF 'laws.FnExactBestClue'. -/
def fnExactBestClueCard : Claim7 := { stood := { row := fnExactBestClueRow, standIns := [], harness := (true, "2175b1daad9dcfadf5b5b87b344056ed34e7dbdb9bd5f3b9683f3ba8ce3eef95"), looks := true }, kinds := [], alts := [], laidByText := true, laidKinds := [.data], laidTests := true, laidLooks := .later }
def FnExactBestClueCardSaid : Prop := Claim7.holds Tryd.pinned (.plain (OpenSpec.ofChange fnExactBestClueSpec)) fnExactBestClueCard

/-- THE TIED CARD OF 'laws.FnExactHarderPuzzle'. -/
def fnExactHarderPuzzleCard : Claim7 := { stood := { row := fnExactHarderPuzzleRow, standIns := [], harness := (true, "2175b1daad9dcfadf5b5b87b344056ed34e7dbdb9bd5f3b9683f3ba8ce3eef95"), looks := true }, kinds := [], alts := [], laidByText := true, laidKinds := [.data], laidTests := true, laidLooks := .later }
def FnExactHarderPuzzleCardSaid : Prop := Claim7.holds Tryd.pinned (.plain (OpenSpec.ofChange fnExactHarderPuzzleSpec)) fnExactHarderPuzzleCard

/-- THE TIED CARD OF 'laws.FnExactPuzzleText'. -/
def fnExactPuzzleTextCard : Claim7 := { stood := { row := fnExactPuzzleTextRow, standIns := [], harness := (true, "2175b1daad9dcfadf5b5b87b344056ed34e7dbdb9bd5f3b9683f3ba8ce3eef95"), looks := true }, kinds := [], alts := [], laidByText := true, laidKinds := [.data, .data, .data, .data], laidTests := true, laidLooks := .later }
def FnExactPuzzleTextCardSaid : Prop := Claim7.holds Tryd.pinned (.plain (OpenSpec.ofChange fnExactPuzzleTextSpec)) fnExactPuzzleTextCard

/-- THE TIED CARD OF 'laws.FnExactParsePuzzle'. -/
def fnExactParsePuzzleCard : Claim7 := { stood := { row := fnExactParsePuzzleRow, standIns := [], harness := (true, "2175b1daad9dcfadf5b5b87b344056ed34e7dbdb9bd5f3b9683f3ba8ce3eef95"), looks := true }, kinds := [], alts := [], laidByText := true, laidKinds := [.data, .data, .data, .data, .sentinel, .sentinel, .data, .pinned], laidTests := true, laidLooks := .later }
def FnExactParsePuzzleCardSaid : Prop := Claim7.holds Tryd.pinned (.plain (OpenSpec.ofChange fnExactParsePuzzleSpec)) fnExactParsePuzzleCard

/-- THE TIED CARD OF 'laws.FnExactParseStar'. -/
def fnExactParseStarCard : Claim7 := { stood := { row := fnExactParseStarRow, standIns := [], harness := (true, "2175b1daad9dcfadf5b5b87b344056ed34e7dbdb9bd5f3b9683f3ba8ce3eef95"), looks := true }, kinds := [], alts := [], laidByText := true, laidKinds := [.data, .data, .data, .sentinel, .sentinel], laidTests := true, laidLooks := .later }
def FnExactParseStarCardSaid : Prop := Claim7.holds Tryd.pinned (.plain (OpenSpec.ofChange fnExactParseStarSpec)) fnExactParseStarCard

/-- THE TIED CARD OF 'laws.FnExactParseChords'. -/
def fnExactParseChordsCard : Claim7 := { stood := { row := fnExactParseChordsRow, standIns := [], harness := (true, "2175b1daad9dcfadf5b5b87b344056ed34e7dbdb9bd5f3b9683f3ba8ce3eef95"), looks := true }, kinds := [], alts := [], laidByText := true, laidKinds := [.data, .data, .data, .data, .sentinel, .sentinel, .pinned], laidTests := true, laidLooks := .later }
def FnExactParseChordsCardSaid : Prop := Claim7.holds Tryd.pinned (.plain (OpenSpec.ofChange fnExactParseChordsSpec)) fnExactParseChordsCard

/-- THE TIED CARD OF 'laws.FnExactParseThreads'. -/
def fnExactParseThreadsCard : Claim7 := { stood := { row := fnExactParseThreadsRow, standIns := [], harness := (true, "2175b1daad9dcfadf5b5b87b344056ed34e7dbdb9bd5f3b9683f3ba8ce3eef95"), looks := true }, kinds := [], alts := [], laidByText := true, laidKinds := [.data, .data, .data, .data, .sentinel, .sentinel, .pinned], laidTests := true, laidLooks := .later }
def FnExactParseThreadsCardSaid : Prop := Claim7.holds Tryd.pinned (.plain (OpenSpec.ofChange fnExactParseThreadsSpec)) fnExactParseThreadsCard

/-- THE TIED CARD OF 'laws.FnExactCountClosed'. -/
def fnExactCountClosedCard : Claim7 := { stood := { row := fnExactCountClosedRow, standIns := [], harness := (true, "2175b1daad9dcfadf5b5b87b344056ed34e7dbdb9bd5f3b9683f3ba8ce3eef95"), looks := true }, kinds := [], alts := [], laidByText := true, laidKinds := [.data, .data], laidTests := true, laidLooks := .later }
def FnExactCountClosedCardSaid : Prop := Claim7.holds Tryd.pinned (.plain (OpenSpec.ofChange fnExactCountClosedSpec)) fnExactCountClosedCard

/-- THE SECOND FORM's CARD OF 'laws.FnExactNeedlessClues'. -/
def fnExactNeedlessCluesUptoCard : Claim7 := { stood := { row := fnExactNeedlessCluesUptoRow, standIns := [], harness := (true, "2175b1daad9dcfadf5b5b87b344056ed34e7dbdb9bd5f3b9683f3ba8ce3eef95"), looks := true }, kinds := [], alts := [], laidByText := true, laidKinds := [.data], laidTests := true, laidLooks := .later }
def FnExactNeedlessCluesUptoCardSaid : Prop := Claim7.holds Tryd.pinned (.plain (OpenSpec.upto fnExactNeedlessCluesSpec)) fnExactNeedlessCluesUptoCard

/-- THE SECOND FORM's CARD OF 'laws.FnExactDropClue'. -/
def fnExactDropClueUptoCard : Claim7 := { stood := { row := fnExactDropClueUptoRow, standIns := [], harness := (true, "2175b1daad9dcfadf5b5b87b344056ed34e7dbdb9bd5f3b9683f3ba8ce3eef95"), looks := true }, kinds := [], alts := [], laidByText := true, laidKinds := [.data], laidTests := true, laidLooks := .later }
def FnExactDropClueUptoCardSaid : Prop := Claim7.holds Tryd.pinned (.plain (OpenSpec.upto fnExactDropClueSpec)) fnExactDropClueUptoCard

/-- THE SECOND FORM's CARD OF 'laws.FnExactAddClue'. -/
def fnExactAddClueUptoCard : Claim7 := { stood := { row := fnExactAddClueUptoRow, standIns := [], harness := (true, "2175b1daad9dcfadf5b5b87b344056ed34e7dbdb9bd5f3b9683f3ba8ce3eef95"), looks := true }, kinds := [], alts := [], laidByText := true, laidKinds := [.data], laidTests := true, laidLooks := .later }
def FnExactAddClueUptoCardSaid : Prop := Claim7.holds Tryd.pinned (.plain (OpenSpec.upto fnExactAddClueSpec)) fnExactAddClueUptoCard

/-- THE SECOND FORM's CARD OF 'laws.FnExactBestClue'. -/
def fnExactBestClueUptoCard : Claim7 := { stood := { row := fnExactBestClueUptoRow, standIns := [], harness := (true, "2175b1daad9dcfadf5b5b87b344056ed34e7dbdb9bd5f3b9683f3ba8ce3eef95"), looks := true }, kinds := [], alts := [], laidByText := true, laidKinds := [.data], laidTests := true, laidLooks := .later }
def FnExactBestClueUptoCardSaid : Prop := Claim7.holds Tryd.pinned (.plain (OpenSpec.upto fnExactBestClueSpec)) fnExactBestClueUptoCard

/-- THE SECOND FORM's CARD OF 'laws.FnExactHarderPuzzle'. -/
def fnExactHarderPuzzleUptoCard : Claim7 := { stood := { row := fnExactHarderPuzzleUptoRow, standIns := [], harness := (true, "2175b1daad9dcfadf5b5b87b344056ed34e7dbdb9bd5f3b9683f3ba8ce3eef95"), looks := true }, kinds := [], alts := [], laidByText := true, laidKinds := [.data], laidTests := true, laidLooks := .later }
def FnExactHarderPuzzleUptoCardSaid : Prop := Claim7.holds Tryd.pinned (.plain (OpenSpec.upto fnExactHarderPuzzleSpec)) fnExactHarderPuzzleUptoCard

/-- THE SECOND FORM's CARD OF 'laws.FnExactPuzzleText'. -/
def fnExactPuzzleTextUptoCard : Claim7 := { stood := { row := fnExactPuzzleTextUptoRow, standIns := [], harness := (true, "2175b1daad9dcfadf5b5b87b344056ed34e7dbdb9bd5f3b9683f3ba8ce3eef95"), looks := true }, kinds := [], alts := [], laidByText := true, laidKinds := [.data, .data, .data, .data], laidTests := true, laidLooks := .later }
def FnExactPuzzleTextUptoCardSaid : Prop := Claim7.holds Tryd.pinned (.plain (OpenSpec.upto fnExactPuzzleTextSpec)) fnExactPuzzleTextUptoCard

/-- THE SECOND FORM's CARD OF 'laws.FnExactParsePuzzle'. -/
def fnExactParsePuzzleUptoCard : Claim7 := { stood := { row := fnExactParsePuzzleUptoRow, standIns := [], harness := (true, "2175b1daad9dcfadf5b5b87b344056ed34e7dbdb9bd5f3b9683f3ba8ce3eef95"), looks := true }, kinds := [], alts := [], laidByText := true, laidKinds := [.data, .data, .data, .data, .sentinel, .sentinel, .data, .pinned], laidTests := true, laidLooks := .later }
def FnExactParsePuzzleUptoCardSaid : Prop := Claim7.holds Tryd.pinned (.plain (OpenSpec.upto fnExactParsePuzzleSpec)) fnExactParsePuzzleUptoCard

/-- THE SECOND FORM's CARD OF 'laws.FnExactParseStar'. -/
def fnExactParseStarUptoCard : Claim7 := { stood := { row := fnExactParseStarUptoRow, standIns := [], harness := (true, "2175b1daad9dcfadf5b5b87b344056ed34e7dbdb9bd5f3b9683f3ba8ce3eef95"), looks := true }, kinds := [], alts := [], laidByText := true, laidKinds := [.data, .data, .data, .sentinel, .sentinel], laidTests := true, laidLooks := .later }
def FnExactParseStarUptoCardSaid : Prop := Claim7.holds Tryd.pinned (.plain (OpenSpec.upto fnExactParseStarSpec)) fnExactParseStarUptoCard

/-- THE SECOND FORM's CARD OF 'laws.FnExactParseChords'. -/
def fnExactParseChordsUptoCard : Claim7 := { stood := { row := fnExactParseChordsUptoRow, standIns := [], harness := (true, "2175b1daad9dcfadf5b5b87b344056ed34e7dbdb9bd5f3b9683f3ba8ce3eef95"), looks := true }, kinds := [], alts := [], laidByText := true, laidKinds := [.data, .data, .data, .data, .sentinel, .sentinel, .pinned], laidTests := true, laidLooks := .later }
def FnExactParseChordsUptoCardSaid : Prop := Claim7.holds Tryd.pinned (.plain (OpenSpec.upto fnExactParseChordsSpec)) fnExactParseChordsUptoCard

/-- THE SECOND FORM's CARD OF 'laws.FnExactParseThreads'. -/
def fnExactParseThreadsUptoCard : Claim7 := { stood := { row := fnExactParseThreadsUptoRow, standIns := [], harness := (true, "2175b1daad9dcfadf5b5b87b344056ed34e7dbdb9bd5f3b9683f3ba8ce3eef95"), looks := true }, kinds := [], alts := [], laidByText := true, laidKinds := [.data, .data, .data, .data, .sentinel, .sentinel, .pinned], laidTests := true, laidLooks := .later }
def FnExactParseThreadsUptoCardSaid : Prop := Claim7.holds Tryd.pinned (.plain (OpenSpec.upto fnExactParseThreadsSpec)) fnExactParseThreadsUptoCard

/-- THE SECOND FORM's CARD OF 'laws.FnExactCountClosed'. -/
def fnExactCountClosedUptoCard : Claim7 := { stood := { row := fnExactCountClosedUptoRow, standIns := [], harness := (true, "2175b1daad9dcfadf5b5b87b344056ed34e7dbdb9bd5f3b9683f3ba8ce3eef95"), looks := true }, kinds := [], alts := [], laidByText := true, laidKinds := [.data, .data], laidTests := true, laidLooks := .later }
def FnExactCountClosedUptoCardSaid : Prop := Claim7.holds Tryd.pinned (.plain (OpenSpec.upto fnExactCountClosedSpec)) fnExactCountClosedUptoCard
end Rows
end Go.Proofs.YtbgcbokddldmkaaDoor
