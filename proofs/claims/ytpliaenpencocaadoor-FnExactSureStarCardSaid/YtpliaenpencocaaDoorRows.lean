/-
  NARROWER THAN 'FOR EVERY INPUT', by the rows' own cells (each row's printed sentence says how): FnExactIsClue: laid · FnExactIsPuzzle: laid · FnExactDoesFit: laid · FnExactSolutions: laid · FnExactCountSolutions: laid · FnExactFirstSolution: laid · FnExactSureStar: laid · FnExactIsSolved: laid · FnExactNeedlessClues: laid · FnExactDropClue: laid · FnExactAddClue: laid · FnExactLeftByClues: laid.
  DERIVED. THE GIVEN ROWS OF THIS SEAT. 12 by the template 'for every input the law returns true; each argument reads behind the call as it read before'; 0 by the template 'total and deterministic' (their statements: YtpliaenpencocaaDoorTotals.lean).
  GIVEN WITH THE SEED: the statements are not yours to turn. If you find one false, say at which input.
  Laid BY PROGRAM, IN A SANDBOX (cutbox-rows.mjs): the forced cells as the released guide's own fill.sh prints them over the translation 603b83a366da87b1… (all of the seat's roots in one cut). By AI agents, Wed Nov 11 2026. No macro, syntax, notation, axiom, sorry.
-/
import Derived.Test.YtpliaenpencocaaDoorChecked
import GoSem.Claim
import GoSem.ClaimJoined
import GoSem.ClaimMapViews
import Derived.JoinedTies
import Derived.KernelRfl
namespace Go.Proofs.YtpliaenpencocaaDoor
/- THE CELL 'sum', in the pinned program and in every row, IS THE sha256 OF THE DUMP (.gsa) THAT YtpliaenpencocaaDoorProg.lean LOADS. Nothing in Lean hashes anything: it is a label: what it is worth is what the hold of that sum in a sandbox is worth. -/
noncomputable def Tryd.pinned : Pinned := { name := "ytpliaenpencocaadoor", sum := "603b83a366da87b1d8b7dfe6626f6bd4a5fd5734ce46464f613eb180c0cf87b8", checked := Tryd.checked }
namespace Rows
def none {H : Type} : Left H := { results := [], args := [] }

/- WHAT THE LISTED PACKAGE-LEVEL VARIABLES READ AS WHEN THE CALL BEGINS. Each datum BY PROGRAM (the guide's laid-datum.mjs) off the statement by which the dump's own 'gosem.cut.vars' lays the variable. In a bare row this is a premise. The card (YtpliaenpencocaaDoorCards.lean) ties it to the program's text. -/
def laid_loop_example_g01324_impl_boundsOfKinds {H : Type} : DataW H := .agg [.agg [.lit (.int .i64 3), .lit (.int .i64 14), .lit (.int .i64 0)], .agg [.lit (.int .i64 1), .lit (.int .i64 7), .lit (.int .i64 0)], .agg [.lit (.int .i64 1), .lit (.int .i64 14), .lit (.int .i64 0)], .agg [.lit (.int .i64 0), .lit (.int .i64 100), .lit (.int .i64 0)], .agg [.lit (.int .i64 0), .lit (.int .i64 14), .lit (.int .i64 14)], .agg [.lit (.int .i64 1), .lit (.int .i64 14), .lit (.int .i64 0)]]

/-- 'laws.FnExactIsClue': WHATEVER THE INPUT: true; the input reads as it did. -/
def fnExactIsClueSpec : ChangeSpec := { name := "fnExactIsClue", vars := ["loop.example/g01324/impl.boundsOfKinds"], fn := fun _ => fun
  | [d, g1] => { results := [.lit (.bool true)], args := [d], vars := [g1] }
  | _ => none }
def fnExactIsClueRow : OpenClaim := { program := "ytpliaenpencocaadoor", sum := "603b83a366da87b1d8b7dfe6626f6bd4a5fd5734ce46464f613eb180c0cf87b8", func := "loop.example/g01324/laws.FnExactIsClue", spec := "fnExactIsClue", unfollowed := true, recurses := true, named := ["loop.example/g01324/impl.boundsOfKinds"], plainKeys := false, apart := false, laid := [("loop.example/g01324/impl.boundsOfKinds", laid_loop_example_g01324_impl_boundsOfKinds)] }
def FnExactIsClueSaid : Prop := fnExactIsClueRow.holds Tryd.pinned (OpenSpec.ofChange fnExactIsClueSpec)

/-- ITS FALSE NEIGHBOUR: 'it returns false'. Refute it at one input. -/
def fnExactIsClueWrong : ChangeSpec := { name := "fnExactIsClue", vars := ["loop.example/g01324/impl.boundsOfKinds"], fn := fun _ => fun
  | [d, g1] => { results := [.lit (.bool false)], args := [d], vars := [g1] }
  | _ => none }
def FnExactIsClueWrongFalsely : Prop := fnExactIsClueRow.holds Tryd.pinned (OpenSpec.ofChange fnExactIsClueWrong)

/-- 'laws.FnExactIsPuzzle': WHATEVER THE INPUT: true; the input reads as it did. -/
def fnExactIsPuzzleSpec : ChangeSpec := { name := "fnExactIsPuzzle", vars := ["loop.example/g01324/impl.boundsOfKinds"], fn := fun _ => fun
  | [d, g1] => { results := [.lit (.bool true)], args := [d], vars := [g1] }
  | _ => none }
def fnExactIsPuzzleRow : OpenClaim := { program := "ytpliaenpencocaadoor", sum := "603b83a366da87b1d8b7dfe6626f6bd4a5fd5734ce46464f613eb180c0cf87b8", func := "loop.example/g01324/laws.FnExactIsPuzzle", spec := "fnExactIsPuzzle", unfollowed := true, recurses := true, named := ["loop.example/g01324/impl.boundsOfKinds"], plainKeys := false, apart := false, laid := [("loop.example/g01324/impl.boundsOfKinds", laid_loop_example_g01324_impl_boundsOfKinds)] }
def FnExactIsPuzzleSaid : Prop := fnExactIsPuzzleRow.holds Tryd.pinned (OpenSpec.ofChange fnExactIsPuzzleSpec)

/-- ITS FALSE NEIGHBOUR: 'it returns false'. Refute it at one input. -/
def fnExactIsPuzzleWrong : ChangeSpec := { name := "fnExactIsPuzzle", vars := ["loop.example/g01324/impl.boundsOfKinds"], fn := fun _ => fun
  | [d, g1] => { results := [.lit (.bool false)], args := [d], vars := [g1] }
  | _ => none }
def FnExactIsPuzzleWrongFalsely : Prop := fnExactIsPuzzleRow.holds Tryd.pinned (OpenSpec.ofChange fnExactIsPuzzleWrong)

/-- 'laws.FnExactDoesFit': WHATEVER THE INPUT: true; the input reads as it did. -/
def fnExactDoesFitSpec : ChangeSpec := { name := "fnExactDoesFit", vars := ["loop.example/g01324/impl.boundsOfKinds"], fn := fun _ => fun
  | [d1, d2, g1] => { results := [.lit (.bool true)], args := [d1, d2], vars := [g1] }
  | _ => none }
def fnExactDoesFitRow : OpenClaim := { program := "ytpliaenpencocaadoor", sum := "603b83a366da87b1d8b7dfe6626f6bd4a5fd5734ce46464f613eb180c0cf87b8", func := "loop.example/g01324/laws.FnExactDoesFit", spec := "fnExactDoesFit", unfollowed := true, recurses := true, named := ["loop.example/g01324/impl.boundsOfKinds"], plainKeys := false, apart := false, laid := [("loop.example/g01324/impl.boundsOfKinds", laid_loop_example_g01324_impl_boundsOfKinds)] }
def FnExactDoesFitSaid : Prop := fnExactDoesFitRow.holds Tryd.pinned (OpenSpec.ofChange fnExactDoesFitSpec)

/-- ITS FALSE NEIGHBOUR: 'it returns false'. Refute it at one input. -/
def fnExactDoesFitWrong : ChangeSpec := { name := "fnExactDoesFit", vars := ["loop.example/g01324/impl.boundsOfKinds"], fn := fun _ => fun
  | [d1, d2, g1] => { results := [.lit (.bool false)], args := [d1, d2], vars := [g1] }
  | _ => none }
def FnExactDoesFitWrongFalsely : Prop := fnExactDoesFitRow.holds Tryd.pinned (OpenSpec.ofChange fnExactDoesFitWrong)

/-- 'laws.FnExactSolutions': WHATEVER THE INPUT: true; the input reads as it did. -/
def fnExactSolutionsSpec : ChangeSpec := { name := "fnExactSolutions", vars := ["loop.example/g01324/impl.boundsOfKinds"], fn := fun _ => fun
  | [d, g1] => { results := [.lit (.bool true)], args := [d], vars := [g1] }
  | _ => none }
def fnExactSolutionsRow : OpenClaim := { program := "ytpliaenpencocaadoor", sum := "603b83a366da87b1d8b7dfe6626f6bd4a5fd5734ce46464f613eb180c0cf87b8", func := "loop.example/g01324/laws.FnExactSolutions", spec := "fnExactSolutions", unfollowed := true, recurses := true, named := ["loop.example/g01324/impl.boundsOfKinds"], plainKeys := false, apart := false, laid := [("loop.example/g01324/impl.boundsOfKinds", laid_loop_example_g01324_impl_boundsOfKinds)] }
def FnExactSolutionsSaid : Prop := fnExactSolutionsRow.holds Tryd.pinned (OpenSpec.ofChange fnExactSolutionsSpec)

/-- ITS FALSE NEIGHBOUR: 'it returns false'. Refute it at one input. -/
def fnExactSolutionsWrong : ChangeSpec := { name := "fnExactSolutions", vars := ["loop.example/g01324/impl.boundsOfKinds"], fn := fun _ => fun
  | [d, g1] => { results := [.lit (.bool false)], args := [d], vars := [g1] }
  | _ => none }
def FnExactSolutionsWrongFalsely : Prop := fnExactSolutionsRow.holds Tryd.pinned (OpenSpec.ofChange fnExactSolutionsWrong)

/-- 'laws.FnExactCountSolutions': WHATEVER THE INPUT: true; the input reads as it did. -/
def fnExactCountSolutionsSpec : ChangeSpec := { name := "fnExactCountSolutions", vars := ["loop.example/g01324/impl.boundsOfKinds"], fn := fun _ => fun
  | [d, g1] => { results := [.lit (.bool true)], args := [d], vars := [g1] }
  | _ => none }
def fnExactCountSolutionsRow : OpenClaim := { program := "ytpliaenpencocaadoor", sum := "603b83a366da87b1d8b7dfe6626f6bd4a5fd5734ce46464f613eb180c0cf87b8", func := "loop.example/g01324/laws.FnExactCountSolutions", spec := "fnExactCountSolutions", unfollowed := true, recurses := true, named := ["loop.example/g01324/impl.boundsOfKinds"], plainKeys := false, apart := false, laid := [("loop.example/g01324/impl.boundsOfKinds", laid_loop_example_g01324_impl_boundsOfKinds)] }
def FnExactCountSolutionsSaid : Prop := fnExactCountSolutionsRow.holds Tryd.pinned (OpenSpec.ofChange fnExactCountSolutionsSpec)

/-- ITS FALSE NEIGHBOUR: 'it returns false'. Refute it at one input. -/
def fnExactCountSolutionsWrong : ChangeSpec := { name := "fnExactCountSolutions", vars := ["loop.example/g01324/impl.boundsOfKinds"], fn := fun _ => fun
  | [d, g1] => { results := [.lit (.bool false)], args := [d], vars := [g1] }
  | _ => none }
def FnExactCountSolutionsWrongFalsely : Prop := fnExactCountSolutionsRow.holds Tryd.pinned (OpenSpec.ofChange fnExactCountSolutionsWrong)

/-- 'laws.FnExactFirstSolution': WHATEVER THE INPUT: true; the input reads as it did. -/
def fnExactFirstSolutionSpec : ChangeSpec := { name := "fnExactFirstSolution", vars := ["loop.example/g01324/impl.boundsOfKinds"], fn := fun _ => fun
  | [d, g1] => { results := [.lit (.bool true)], args := [d], vars := [g1] }
  | _ => none }
def fnExactFirstSolutionRow : OpenClaim := { program := "ytpliaenpencocaadoor", sum := "603b83a366da87b1d8b7dfe6626f6bd4a5fd5734ce46464f613eb180c0cf87b8", func := "loop.example/g01324/laws.FnExactFirstSolution", spec := "fnExactFirstSolution", unfollowed := true, recurses := true, named := ["loop.example/g01324/impl.boundsOfKinds"], plainKeys := false, apart := false, laid := [("loop.example/g01324/impl.boundsOfKinds", laid_loop_example_g01324_impl_boundsOfKinds)] }
def FnExactFirstSolutionSaid : Prop := fnExactFirstSolutionRow.holds Tryd.pinned (OpenSpec.ofChange fnExactFirstSolutionSpec)

/-- ITS FALSE NEIGHBOUR: 'it returns false'. Refute it at one input. -/
def fnExactFirstSolutionWrong : ChangeSpec := { name := "fnExactFirstSolution", vars := ["loop.example/g01324/impl.boundsOfKinds"], fn := fun _ => fun
  | [d, g1] => { results := [.lit (.bool false)], args := [d], vars := [g1] }
  | _ => none }
def FnExactFirstSolutionWrongFalsely : Prop := fnExactFirstSolutionRow.holds Tryd.pinned (OpenSpec.ofChange fnExactFirstSolutionWrong)

/-- 'laws.FnExactSureStar': WHATEVER THE INPUT: true; the input reads as it did. -/
def fnExactSureStarSpec : ChangeSpec := { name := "fnExactSureStar", vars := ["loop.example/g01324/impl.boundsOfKinds"], fn := fun _ => fun
  | [d, g1] => { results := [.lit (.bool true)], args := [d], vars := [g1] }
  | _ => none }
def fnExactSureStarRow : OpenClaim := { program := "ytpliaenpencocaadoor", sum := "603b83a366da87b1d8b7dfe6626f6bd4a5fd5734ce46464f613eb180c0cf87b8", func := "loop.example/g01324/laws.FnExactSureStar", spec := "fnExactSureStar", unfollowed := true, recurses := true, named := ["loop.example/g01324/impl.boundsOfKinds"], plainKeys := false, apart := false, laid := [("loop.example/g01324/impl.boundsOfKinds", laid_loop_example_g01324_impl_boundsOfKinds)] }
def FnExactSureStarSaid : Prop := fnExactSureStarRow.holds Tryd.pinned (OpenSpec.ofChange fnExactSureStarSpec)

/-- ITS FALSE NEIGHBOUR: 'it returns false'. Refute it at one input. -/
def fnExactSureStarWrong : ChangeSpec := { name := "fnExactSureStar", vars := ["loop.example/g01324/impl.boundsOfKinds"], fn := fun _ => fun
  | [d, g1] => { results := [.lit (.bool false)], args := [d], vars := [g1] }
  | _ => none }
def FnExactSureStarWrongFalsely : Prop := fnExactSureStarRow.holds Tryd.pinned (OpenSpec.ofChange fnExactSureStarWrong)

/-- 'laws.FnExactIsSolved': WHATEVER THE INPUT: true; the input reads as it did. -/
def fnExactIsSolvedSpec : ChangeSpec := { name := "fnExactIsSolved", vars := ["loop.example/g01324/impl.boundsOfKinds"], fn := fun _ => fun
  | [d, g1] => { results := [.lit (.bool true)], args := [d], vars := [g1] }
  | _ => none }
def fnExactIsSolvedRow : OpenClaim := { program := "ytpliaenpencocaadoor", sum := "603b83a366da87b1d8b7dfe6626f6bd4a5fd5734ce46464f613eb180c0cf87b8", func := "loop.example/g01324/laws.FnExactIsSolved", spec := "fnExactIsSolved", unfollowed := true, recurses := true, named := ["loop.example/g01324/impl.boundsOfKinds"], plainKeys := false, apart := false, laid := [("loop.example/g01324/impl.boundsOfKinds", laid_loop_example_g01324_impl_boundsOfKinds)] }
def FnExactIsSolvedSaid : Prop := fnExactIsSolvedRow.holds Tryd.pinned (OpenSpec.ofChange fnExactIsSolvedSpec)

/-- ITS FALSE NEIGHBOUR: 'it returns false'. Refute it at one input. -/
def fnExactIsSolvedWrong : ChangeSpec := { name := "fnExactIsSolved", vars := ["loop.example/g01324/impl.boundsOfKinds"], fn := fun _ => fun
  | [d, g1] => { results := [.lit (.bool false)], args := [d], vars := [g1] }
  | _ => none }
def FnExactIsSolvedWrongFalsely : Prop := fnExactIsSolvedRow.holds Tryd.pinned (OpenSpec.ofChange fnExactIsSolvedWrong)

/-- 'laws.FnExactNeedlessClues': WHATEVER THE INPUT: true; the input reads as it did. -/
def fnExactNeedlessCluesSpec : ChangeSpec := { name := "fnExactNeedlessClues", vars := ["loop.example/g01324/impl.boundsOfKinds"], fn := fun _ => fun
  | [d, g1] => { results := [.lit (.bool true)], args := [d], vars := [g1] }
  | _ => none }
def fnExactNeedlessCluesRow : OpenClaim := { program := "ytpliaenpencocaadoor", sum := "603b83a366da87b1d8b7dfe6626f6bd4a5fd5734ce46464f613eb180c0cf87b8", func := "loop.example/g01324/laws.FnExactNeedlessClues", spec := "fnExactNeedlessClues", unfollowed := true, recurses := true, named := ["loop.example/g01324/impl.boundsOfKinds"], plainKeys := false, apart := false, laid := [("loop.example/g01324/impl.boundsOfKinds", laid_loop_example_g01324_impl_boundsOfKinds)] }
def FnExactNeedlessCluesSaid : Prop := fnExactNeedlessCluesRow.holds Tryd.pinned (OpenSpec.ofChange fnExactNeedlessCluesSpec)

/-- ITS FALSE NEIGHBOUR: 'it returns false'. Refute it at one input. -/
def fnExactNeedlessCluesWrong : ChangeSpec := { name := "fnExactNeedlessClues", vars := ["loop.example/g01324/impl.boundsOfKinds"], fn := fun _ => fun
  | [d, g1] => { results := [.lit (.bool false)], args := [d], vars := [g1] }
  | _ => none }
def FnExactNeedlessCluesWrongFalsely : Prop := fnExactNeedlessCluesRow.holds Tryd.pinned (OpenSpec.ofChange fnExactNeedlessCluesWrong)

/-- 'laws.FnExactDropClue': WHATEVER THE INPUT: true; the input reads as it did. -/
def fnExactDropClueSpec : ChangeSpec := { name := "fnExactDropClue", vars := ["loop.example/g01324/impl.boundsOfKinds"], fn := fun _ => fun
  | [d1, d2, g1] => { results := [.lit (.bool true)], args := [d1, d2], vars := [g1] }
  | _ => none }
def fnExactDropClueRow : OpenClaim := { program := "ytpliaenpencocaadoor", sum := "603b83a366da87b1d8b7dfe6626f6bd4a5fd5734ce46464f613eb180c0cf87b8", func := "loop.example/g01324/laws.FnExactDropClue", spec := "fnExactDropClue", unfollowed := true, recurses := true, named := ["loop.example/g01324/impl.boundsOfKinds"], plainKeys := false, apart := false, laid := [("loop.example/g01324/impl.boundsOfKinds", laid_loop_example_g01324_impl_boundsOfKinds)] }
def FnExactDropClueSaid : Prop := fnExactDropClueRow.holds Tryd.pinned (OpenSpec.ofChange fnExactDropClueSpec)

/-- ITS FALSE NEIGHBOUR: 'it returns false'. Refute it at one input. -/
def fnExactDropClueWrong : ChangeSpec := { name := "fnExactDropClue", vars := ["loop.example/g01324/impl.boundsOfKinds"], fn := fun _ => fun
  | [d1, d2, g1] => { results := [.lit (.bool false)], args := [d1, d2], vars := [g1] }
  | _ => none }
def FnExactDropClueWrongFalsely : Prop := fnExactDropClueRow.holds Tryd.pinned (OpenSpec.ofChange fnExactDropClueWrong)

/-- 'laws.FnExactAddClue': WHATEVER THE INPUT: true; the input reads as it did. -/
def fnExactAddClueSpec : ChangeSpec := { name := "fnExactAddClue", vars := ["loop.example/g01324/impl.boundsOfKinds"], fn := fun _ => fun
  | [d1, d2, g1] => { results := [.lit (.bool true)], args := [d1, d2], vars := [g1] }
  | _ => none }
def fnExactAddClueRow : OpenClaim := { program := "ytpliaenpencocaadoor", sum := "603b83a366da87b1d8b7dfe6626f6bd4a5fd5734ce46464f613eb180c0cf87b8", func := "loop.example/g01324/laws.FnExactAddClue", spec := "fnExactAddClue", unfollowed := true, recurses := true, named := ["loop.example/g01324/impl.boundsOfKinds"], plainKeys := false, apart := false, laid := [("loop.example/g01324/impl.boundsOfKinds", laid_loop_example_g01324_impl_boundsOfKinds)] }
def FnExactAddClueSaid : Prop := fnExactAddClueRow.holds Tryd.pinned (OpenSpec.ofChange fnExactAddClueSpec)

/-- ITS FALSE NEIGHBOUR: 'it returns false'. Refute it at one input. -/
def fnExactAddClueWrong : ChangeSpec := { name := "fnExactAddClue", vars := ["loop.example/g01324/impl.boundsOfKinds"], fn := fun _ => fun
  | [d1, d2, g1] => { results := [.lit (.bool false)], args := [d1, d2], vars := [g1] }
  | _ => none }
def FnExactAddClueWrongFalsely : Prop := fnExactAddClueRow.holds Tryd.pinned (OpenSpec.ofChange fnExactAddClueWrong)

/-- 'laws.FnExactLeftByClues': WHATEVER THE INPUT: true; the input reads as it did. -/
def fnExactLeftByCluesSpec : ChangeSpec := { name := "fnExactLeftByClues", vars := ["loop.example/g01324/impl.boundsOfKinds"], fn := fun _ => fun
  | [d, g1] => { results := [.lit (.bool true)], args := [d], vars := [g1] }
  | _ => none }
def fnExactLeftByCluesRow : OpenClaim := { program := "ytpliaenpencocaadoor", sum := "603b83a366da87b1d8b7dfe6626f6bd4a5fd5734ce46464f613eb180c0cf87b8", func := "loop.example/g01324/laws.FnExactLeftByClues", spec := "fnExactLeftByClues", unfollowed := true, recurses := true, named := ["loop.example/g01324/impl.boundsOfKinds"], plainKeys := false, apart := false, laid := [("loop.example/g01324/impl.boundsOfKinds", laid_loop_example_g01324_impl_boundsOfKinds)] }
def FnExactLeftByCluesSaid : Prop := fnExactLeftByCluesRow.holds Tryd.pinned (OpenSpec.ofChange fnExactLeftByCluesSpec)

/-- ITS FALSE NEIGHBOUR: 'it returns false'. Refute it at one input. -/
def fnExactLeftByCluesWrong : ChangeSpec := { name := "fnExactLeftByClues", vars := ["loop.example/g01324/impl.boundsOfKinds"], fn := fun _ => fun
  | [d, g1] => { results := [.lit (.bool false)], args := [d], vars := [g1] }
  | _ => none }
def FnExactLeftByCluesWrongFalsely : Prop := fnExactLeftByCluesRow.holds Tryd.pinned (OpenSpec.ofChange fnExactLeftByCluesWrong)

/- THE SECOND FORM. 'bulk': how many values and letters a reading holds, each counted each time it is reached (what is shared counts as often as it is met; a slice's spare places count too). A statement '..UptoSaid' is the law's where the arguments, and the package variables that the reading takes, are together of bulk at most 1048576: NARROWER than '..Said'. Prove '..Said' where nothing that the law and all that it calls make is longer than what came in: it says more and counts as full. Else prove '..UptoSaid'. A law counts once. -/
mutual
def uptoBulk {H : Type} : DataW H → Nat
  | .lit (.string bytes) => bytes.length + 1
  | .lit _ => 1
  | .nil => 1
  | .ptr d => uptoBulk d + 1
  | .slice elems spare => uptoBulkAll elems + uptoBulkAll spare + 1
  | .agg parts => uptoBulkAll parts + 1
  | .iface _ d => uptoBulk d + 1
  | .map entries => uptoBulkEntries entries + 1
  | .held _ => 1
def uptoBulkAll {H : Type} : List (DataW H) → Nat
  | [] => 0
  | d :: r => uptoBulk d + uptoBulkAll r
def uptoBulkEntries {H : Type} : List (Lit × DataW H) → Nat
  | [] => 0
  | x :: r => uptoBulkEntry x + uptoBulkEntries r
def uptoBulkEntry {H : Type} : Lit × DataW H → Nat
  | (.string bytes, d) => bytes.length + uptoBulk d + 1
  | (_, d) => uptoBulk d + 1
 end
def uptoSmall : (H : Type) → List (DataW H) → Bool := fun _ ds => decide (uptoBulkAll ds ≤ 1048576)
def OpenSpec.upto (s : _root_.Go.ChangeSpec) : _root_.Go.OpenSpec := { _root_.Go.OpenSpec.ofChange s with cond := some uptoSmall }

/-- 'laws.FnExactIsClue', WHERE WHAT IT READS IS OF BULK AT MOST 1048576: true; the input reads as it did. -/
def fnExactIsClueUptoRow : OpenClaim := { program := "ytpliaenpencocaadoor", sum := "603b83a366da87b1d8b7dfe6626f6bd4a5fd5734ce46464f613eb180c0cf87b8", func := "loop.example/g01324/laws.FnExactIsClue", spec := "fnExactIsClue", unfollowed := true, recurses := true, named := ["loop.example/g01324/impl.boundsOfKinds"], plainKeys := false, apart := false, laid := [("loop.example/g01324/impl.boundsOfKinds", laid_loop_example_g01324_impl_boundsOfKinds)], narrowed := true }
def FnExactIsClueUptoSaid : Prop := fnExactIsClueUptoRow.holds Tryd.pinned (OpenSpec.upto fnExactIsClueSpec)

/-- 'laws.FnExactIsPuzzle', WHERE WHAT IT READS IS OF BULK AT MOST 1048576: true; the input reads as it did. -/
def fnExactIsPuzzleUptoRow : OpenClaim := { program := "ytpliaenpencocaadoor", sum := "603b83a366da87b1d8b7dfe6626f6bd4a5fd5734ce46464f613eb180c0cf87b8", func := "loop.example/g01324/laws.FnExactIsPuzzle", spec := "fnExactIsPuzzle", unfollowed := true, recurses := true, named := ["loop.example/g01324/impl.boundsOfKinds"], plainKeys := false, apart := false, laid := [("loop.example/g01324/impl.boundsOfKinds", laid_loop_example_g01324_impl_boundsOfKinds)], narrowed := true }
def FnExactIsPuzzleUptoSaid : Prop := fnExactIsPuzzleUptoRow.holds Tryd.pinned (OpenSpec.upto fnExactIsPuzzleSpec)

/-- 'laws.FnExactDoesFit', WHERE WHAT IT READS IS OF BULK AT MOST 1048576: true; the input reads as it did. -/
def fnExactDoesFitUptoRow : OpenClaim := { program := "ytpliaenpencocaadoor", sum := "603b83a366da87b1d8b7dfe6626f6bd4a5fd5734ce46464f613eb180c0cf87b8", func := "loop.example/g01324/laws.FnExactDoesFit", spec := "fnExactDoesFit", unfollowed := true, recurses := true, named := ["loop.example/g01324/impl.boundsOfKinds"], plainKeys := false, apart := false, laid := [("loop.example/g01324/impl.boundsOfKinds", laid_loop_example_g01324_impl_boundsOfKinds)], narrowed := true }
def FnExactDoesFitUptoSaid : Prop := fnExactDoesFitUptoRow.holds Tryd.pinned (OpenSpec.upto fnExactDoesFitSpec)

/-- 'laws.FnExactSolutions', WHERE WHAT IT READS IS OF BULK AT MOST 1048576: true; the input reads as it did. -/
def fnExactSolutionsUptoRow : OpenClaim := { program := "ytpliaenpencocaadoor", sum := "603b83a366da87b1d8b7dfe6626f6bd4a5fd5734ce46464f613eb180c0cf87b8", func := "loop.example/g01324/laws.FnExactSolutions", spec := "fnExactSolutions", unfollowed := true, recurses := true, named := ["loop.example/g01324/impl.boundsOfKinds"], plainKeys := false, apart := false, laid := [("loop.example/g01324/impl.boundsOfKinds", laid_loop_example_g01324_impl_boundsOfKinds)], narrowed := true }
def FnExactSolutionsUptoSaid : Prop := fnExactSolutionsUptoRow.holds Tryd.pinned (OpenSpec.upto fnExactSolutionsSpec)

/-- 'laws.FnExactCountSolutions', WHERE WHAT IT READS IS OF BULK AT MOST 1048576: true; the input reads as it did. -/
def fnExactCountSolutionsUptoRow : OpenClaim := { program := "ytpliaenpencocaadoor", sum := "603b83a366da87b1d8b7dfe6626f6bd4a5fd5734ce46464f613eb180c0cf87b8", func := "loop.example/g01324/laws.FnExactCountSolutions", spec := "fnExactCountSolutions", unfollowed := true, recurses := true, named := ["loop.example/g01324/impl.boundsOfKinds"], plainKeys := false, apart := false, laid := [("loop.example/g01324/impl.boundsOfKinds", laid_loop_example_g01324_impl_boundsOfKinds)], narrowed := true }
def FnExactCountSolutionsUptoSaid : Prop := fnExactCountSolutionsUptoRow.holds Tryd.pinned (OpenSpec.upto fnExactCountSolutionsSpec)

/-- 'laws.FnExactFirstSolution', WHERE WHAT IT READS IS OF BULK AT MOST 1048576: true; the input reads as it did. -/
def fnExactFirstSolutionUptoRow : OpenClaim := { program := "ytpliaenpencocaadoor", sum := "603b83a366da87b1d8b7dfe6626f6bd4a5fd5734ce46464f613eb180c0cf87b8", func := "loop.example/g01324/laws.FnExactFirstSolution", spec := "fnExactFirstSolution", unfollowed := true, recurses := true, named := ["loop.example/g01324/impl.boundsOfKinds"], plainKeys := false, apart := false, laid := [("loop.example/g01324/impl.boundsOfKinds", laid_loop_example_g01324_impl_boundsOfKinds)], narrowed := true }
def FnExactFirstSolutionUptoSaid : Prop := fnExactFirstSolutionUptoRow.holds Tryd.pinned (OpenSpec.upto fnExactFirstSolutionSpec)

/-- 'laws.FnExactSureStar', WHERE WHAT IT READS IS OF BULK AT MOST 1048576: true; the input reads as it did. -/
def fnExactSureStarUptoRow : OpenClaim := { program := "ytpliaenpencocaadoor", sum := "603b83a366da87b1d8b7dfe6626f6bd4a5fd5734ce46464f613eb180c0cf87b8", func := "loop.example/g01324/laws.FnExactSureStar", spec := "fnExactSureStar", unfollowed := true, recurses := true, named := ["loop.example/g01324/impl.boundsOfKinds"], plainKeys := false, apart := false, laid := [("loop.example/g01324/impl.boundsOfKinds", laid_loop_example_g01324_impl_boundsOfKinds)], narrowed := true }
def FnExactSureStarUptoSaid : Prop := fnExactSureStarUptoRow.holds Tryd.pinned (OpenSpec.upto fnExactSureStarSpec)

/-- 'laws.FnExactIsSolved', WHERE WHAT IT READS IS OF BULK AT MOST 1048576: true; the input reads as it did. -/
def fnExactIsSolvedUptoRow : OpenClaim := { program := "ytpliaenpencocaadoor", sum := "603b83a366da87b1d8b7dfe6626f6bd4a5fd5734ce46464f613eb180c0cf87b8", func := "loop.example/g01324/laws.FnExactIsSolved", spec := "fnExactIsSolved", unfollowed := true, recurses := true, named := ["loop.example/g01324/impl.boundsOfKinds"], plainKeys := false, apart := false, laid := [("loop.example/g01324/impl.boundsOfKinds", laid_loop_example_g01324_impl_boundsOfKinds)], narrowed := true }
def FnExactIsSolvedUptoSaid : Prop := fnExactIsSolvedUptoRow.holds Tryd.pinned (OpenSpec.upto fnExactIsSolvedSpec)

/-- 'laws.FnExactNeedlessClues', WHERE WHAT IT READS IS OF BULK AT MOST 1048576: true; the input reads as it did. -/
def fnExactNeedlessCluesUptoRow : OpenClaim := { program := "ytpliaenpencocaadoor", sum := "603b83a366da87b1d8b7dfe6626f6bd4a5fd5734ce46464f613eb180c0cf87b8", func := "loop.example/g01324/laws.FnExactNeedlessClues", spec := "fnExactNeedlessClues", unfollowed := true, recurses := true, named := ["loop.example/g01324/impl.boundsOfKinds"], plainKeys := false, apart := false, laid := [("loop.example/g01324/impl.boundsOfKinds", laid_loop_example_g01324_impl_boundsOfKinds)], narrowed := true }
def FnExactNeedlessCluesUptoSaid : Prop := fnExactNeedlessCluesUptoRow.holds Tryd.pinned (OpenSpec.upto fnExactNeedlessCluesSpec)

/-- 'laws.FnExactDropClue', WHERE WHAT IT READS IS OF BULK AT MOST 1048576: true; the input reads as it did. -/
def fnExactDropClueUptoRow : OpenClaim := { program := "ytpliaenpencocaadoor", sum := "603b83a366da87b1d8b7dfe6626f6bd4a5fd5734ce46464f613eb180c0cf87b8", func := "loop.example/g01324/laws.FnExactDropClue", spec := "fnExactDropClue", unfollowed := true, recurses := true, named := ["loop.example/g01324/impl.boundsOfKinds"], plainKeys := false, apart := false, laid := [("loop.example/g01324/impl.boundsOfKinds", laid_loop_example_g01324_impl_boundsOfKinds)], narrowed := true }
def FnExactDropClueUptoSaid : Prop := fnExactDropClueUptoRow.holds Tryd.pinned (OpenSpec.upto fnExactDropClueSpec)

/-- 'laws.FnExactAddClue', WHERE WHAT IT READS IS OF BULK AT MOST 1048576: true; the input reads as it did. -/
def fnExactAddClueUptoRow : OpenClaim := { program := "ytpliaenpencocaadoor", sum := "603b83a366da87b1d8b7dfe6626f6bd4a5fd5734ce46464f613eb180c0cf87b8", func := "loop.example/g01324/laws.FnExactAddClue", spec := "fnExactAddClue", unfollowed := true, recurses := true, named := ["loop.example/g01324/impl.boundsOfKinds"], plainKeys := false, apart := false, laid := [("loop.example/g01324/impl.boundsOfKinds", laid_loop_example_g01324_impl_boundsOfKinds)], narrowed := true }
def FnExactAddClueUptoSaid : Prop := fnExactAddClueUptoRow.holds Tryd.pinned (OpenSpec.upto fnExactAddClueSpec)

/-- 'laws.FnExactLeftByClues', WHERE WHAT IT READS IS OF BULK AT MOST 1048576: true; the input reads as it did. -/
def fnExactLeftByCluesUptoRow : OpenClaim := { program := "ytpliaenpencocaadoor", sum := "603b83a366da87b1d8b7dfe6626f6bd4a5fd5734ce46464f613eb180c0cf87b8", func := "loop.example/g01324/laws.FnExactLeftByClues", spec := "fnExactLeftByClues", unfollowed := true, recurses := true, named := ["loop.example/g01324/impl.boundsOfKinds"], plainKeys := false, apart := false, laid := [("loop.example/g01324/impl.boundsOfKinds", laid_loop_example_g01324_impl_boundsOfKinds)], narrowed := true }
def FnExactLeftByCluesUptoSaid : Prop := fnExactLeftByCluesUptoRow.holds Tryd.pinned (OpenSpec.upto fnExactLeftByCluesSpec)

end Rows
end Go.Proofs.YtpliaenpencocaaDoor
