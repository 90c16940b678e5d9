/-
  NARROWER THAN 'FOR EVERY INPUT', by the rows' own cells (each row's printed sentence says how): FnExactNeedlessClues: laid · FnExactDropClue: laid · FnExactAddClue: laid · FnExactBestClue: laid · FnExactHarderPuzzle: laid · FnExactPuzzleText: laid · FnExactParsePuzzle: laid · FnExactParseStar: laid · FnExactParseChords: laid · FnExactParseThreads: laid · FnExactCountClosed: laid.
  DERIVED. THE GIVEN ROWS OF THIS SEAT. 11 by the template 'for every input the law returns true; each argument reads behind the call as it read before'; 0 by the template 'total and deterministic' (their statements: YtbgcbokddldmkaaDoorTotals.lean).
  GIVEN WITH THE SEED: the statements are not yours to turn. If you find one false, say at which input.
  Laid BY PROGRAM, IN A SANDBOX (cutbox-rows.mjs): the forced cells as the released guide's own fill.sh prints them over the translation 96e4143621c03b12… (all of the seat's roots in one cut). By AI agents, Wed Nov 11 2026. No macro, syntax, notation, axiom, sorry.
-/
import Derived.Test.YtbgcbokddldmkaaDoorChecked
import GoSem.PinnedTables
import GoSem.Claim
import GoSem.ClaimJoined
import GoSem.ClaimMapViews
import Derived.JoinedTies
import Derived.KernelRfl
namespace Go.Proofs.YtbgcbokddldmkaaDoor
/- THE CELL 'sum', in the pinned program and in every row, IS THE sha256 OF THE DUMP (.gsa) THAT YtbgcbokddldmkaaDoorProg.lean LOADS. Nothing in Lean hashes anything: it is a label: what it is worth is what the hold of that sum in a sandbox is worth. -/
noncomputable def Tryd.pinned : Pinned := { name := "ytbgcbokddldmkaadoor", sum := "96e4143621c03b122a79ae915002c524dbbae0d5af425cc1e29feacdf4b58c68", checked := Tryd.checked }
namespace Rows
def none {H : Type} : Left H := { results := [], args := [] }

/- WHAT THE LISTED PACKAGE-LEVEL VARIABLES READ AS WHEN THE CALL BEGINS. Each datum BY PROGRAM (the guide's laid-datum.mjs) off the statement by which the dump's own 'gosem.cut.vars' lays the variable. In a bare row this is a premise. The card (YtbgcbokddldmkaaDoorCards.lean) ties it to the program's text. -/
def laid_loop_example_g01324_impl_boundsOfKinds {H : Type} : DataW H := .agg [.agg [.lit (.int .i64 3), .lit (.int .i64 14), .lit (.int .i64 0)], .agg [.lit (.int .i64 1), .lit (.int .i64 7), .lit (.int .i64 0)], .agg [.lit (.int .i64 1), .lit (.int .i64 14), .lit (.int .i64 0)], .agg [.lit (.int .i64 0), .lit (.int .i64 100), .lit (.int .i64 0)], .agg [.lit (.int .i64 0), .lit (.int .i64 14), .lit (.int .i64 14)], .agg [.lit (.int .i64 1), .lit (.int .i64 14), .lit (.int .i64 0)]]
def laid_math_bits_deBruijn32tab {H : Type} : DataW H := .agg [.lit (.int .u8 0), .lit (.int .u8 1), .lit (.int .u8 28), .lit (.int .u8 2), .lit (.int .u8 29), .lit (.int .u8 14), .lit (.int .u8 24), .lit (.int .u8 3), .lit (.int .u8 30), .lit (.int .u8 22), .lit (.int .u8 20), .lit (.int .u8 15), .lit (.int .u8 25), .lit (.int .u8 17), .lit (.int .u8 4), .lit (.int .u8 8), .lit (.int .u8 31), .lit (.int .u8 27), .lit (.int .u8 13), .lit (.int .u8 23), .lit (.int .u8 21), .lit (.int .u8 19), .lit (.int .u8 16), .lit (.int .u8 7), .lit (.int .u8 26), .lit (.int .u8 12), .lit (.int .u8 18), .lit (.int .u8 6), .lit (.int .u8 11), .lit (.int .u8 5), .lit (.int .u8 10), .lit (.int .u8 9)]
def laid_math_bits_deBruijn64tab {H : Type} : DataW H := .agg [.lit (.int .u8 0), .lit (.int .u8 1), .lit (.int .u8 56), .lit (.int .u8 2), .lit (.int .u8 57), .lit (.int .u8 49), .lit (.int .u8 28), .lit (.int .u8 3), .lit (.int .u8 61), .lit (.int .u8 58), .lit (.int .u8 42), .lit (.int .u8 50), .lit (.int .u8 38), .lit (.int .u8 29), .lit (.int .u8 17), .lit (.int .u8 4), .lit (.int .u8 62), .lit (.int .u8 47), .lit (.int .u8 59), .lit (.int .u8 36), .lit (.int .u8 45), .lit (.int .u8 43), .lit (.int .u8 51), .lit (.int .u8 22), .lit (.int .u8 53), .lit (.int .u8 39), .lit (.int .u8 33), .lit (.int .u8 30), .lit (.int .u8 24), .lit (.int .u8 18), .lit (.int .u8 12), .lit (.int .u8 5), .lit (.int .u8 63), .lit (.int .u8 55), .lit (.int .u8 48), .lit (.int .u8 27), .lit (.int .u8 60), .lit (.int .u8 41), .lit (.int .u8 37), .lit (.int .u8 16), .lit (.int .u8 46), .lit (.int .u8 35), .lit (.int .u8 44), .lit (.int .u8 21), .lit (.int .u8 52), .lit (.int .u8 32), .lit (.int .u8 23), .lit (.int .u8 11), .lit (.int .u8 54), .lit (.int .u8 26), .lit (.int .u8 40), .lit (.int .u8 15), .lit (.int .u8 34), .lit (.int .u8 20), .lit (.int .u8 31), .lit (.int .u8 10), .lit (.int .u8 25), .lit (.int .u8 14), .lit (.int .u8 19), .lit (.int .u8 9), .lit (.int .u8 13), .lit (.int .u8 8), .lit (.int .u8 7), .lit (.int .u8 6)]
def laid_internal_strconv_uint64pow10 {H : Type} : DataW H := .agg [.lit (.int .u64 1), .lit (.int .u64 10), .lit (.int .u64 100), .lit (.int .u64 1000), .lit (.int .u64 10000), .lit (.int .u64 100000), .lit (.int .u64 1000000), .lit (.int .u64 10000000), .lit (.int .u64 100000000), .lit (.int .u64 1000000000), .lit (.int .u64 10000000000), .lit (.int .u64 100000000000), .lit (.int .u64 1000000000000), .lit (.int .u64 10000000000000), .lit (.int .u64 100000000000000), .lit (.int .u64 1000000000000000), .lit (.int .u64 10000000000000000), .lit (.int .u64 100000000000000000), .lit (.int .u64 1000000000000000000), .lit (.int .u64 10000000000000000000)]
def laid_unicode_utf8_acceptRanges {H : Type} : DataW H := .agg [.agg [.lit (.int .u8 128), .lit (.int .u8 191)], .agg [.lit (.int .u8 160), .lit (.int .u8 191)], .agg [.lit (.int .u8 128), .lit (.int .u8 159)], .agg [.lit (.int .u8 144), .lit (.int .u8 191)], .agg [.lit (.int .u8 128), .lit (.int .u8 143)], .agg [.lit (.int .u8 0), .lit (.int .u8 0)], .agg [.lit (.int .u8 0), .lit (.int .u8 0)], .agg [.lit (.int .u8 0), .lit (.int .u8 0)], .agg [.lit (.int .u8 0), .lit (.int .u8 0)], .agg [.lit (.int .u8 0), .lit (.int .u8 0)], .agg [.lit (.int .u8 0), .lit (.int .u8 0)], .agg [.lit (.int .u8 0), .lit (.int .u8 0)], .agg [.lit (.int .u8 0), .lit (.int .u8 0)], .agg [.lit (.int .u8 0), .lit (.int .u8 0)], .agg [.lit (.int .u8 0), .lit (.int .u8 0)], .agg [.lit (.int .u8 0), .lit (.int .u8 0)]]
def laid_strconv_ErrRange {H : Type} : DataW H := .iface "*errors.errorString" (.ptr (.agg [.lit (.string [118, 97, 108, 117, 101, 32, 111, 117, 116, 32, 111, 102, 32, 114, 97, 110, 103, 101])]))
def laid_strconv_ErrSyntax {H : Type} : DataW H := .iface "*errors.errorString" (.ptr (.agg [.lit (.string [105, 110, 118, 97, 108, 105, 100, 32, 115, 121, 110, 116, 97, 120])]))
/-- One of Go's own tables, pinned by name: the form's constant. -/
def laid_unicode_utf8_first : DataW Unit := Go.Pinned.utf8First
def laid_loop_example_g01324_impl_squareSteps {H : Type} : DataW H := .agg [.agg [.lit (.int .i64 1), .lit (.int .i64 0)], .agg [.lit (.int .i64 0), .lit (.int .i64 1)], .agg [.lit (.int .i64 (-1)), .lit (.int .i64 0)], .agg [.lit (.int .i64 0), .lit (.int .i64 (-1))]]
def laid_loop_example_g01324_impl_triangleSteps {H : Type} : DataW H := .agg [.agg [.lit (.int .i64 1), .lit (.int .i64 0)], .agg [.lit (.int .i64 0), .lit (.int .i64 1)], .agg [.lit (.int .i64 (-1)), .lit (.int .i64 1)], .agg [.lit (.int .i64 (-1)), .lit (.int .i64 0)], .agg [.lit (.int .i64 0), .lit (.int .i64 (-1))], .agg [.lit (.int .i64 1), .lit (.int .i64 (-1))]]

/-- 'laws.FnExactNeedlessClues': WHATEVER THE INPUT: true; the input reads as it did. -/
def fnExactNeedlessCluesSpec : ChangeSpec := { name := "fnExactNeedlessClues", vars := ["loop.example/g01324/impl.boundsOfKinds"], fn := fun _ => fun
  | [d, g1] => { results := [.lit (.bool true)], args := [d], vars := [g1] }
  | _ => none }
def fnExactNeedlessCluesRow : OpenClaim := { program := "ytbgcbokddldmkaadoor", sum := "96e4143621c03b122a79ae915002c524dbbae0d5af425cc1e29feacdf4b58c68", func := "loop.example/g01324/laws.FnExactNeedlessClues", spec := "fnExactNeedlessClues", unfollowed := true, recurses := true, named := ["loop.example/g01324/impl.boundsOfKinds"], plainKeys := false, apart := false, laid := [("loop.example/g01324/impl.boundsOfKinds", laid_loop_example_g01324_impl_boundsOfKinds)] }
def FnExactNeedlessCluesSaid : Prop := fnExactNeedlessCluesRow.holds Tryd.pinned (OpenSpec.ofChange fnExactNeedlessCluesSpec)

/-- ITS FALSE NEIGHBOUR: 'it returns false'. Refute it at one input. -/
def fnExactNeedlessCluesWrong : ChangeSpec := { name := "fnExactNeedlessClues", vars := ["loop.example/g01324/impl.boundsOfKinds"], fn := fun _ => fun
  | [d, g1] => { results := [.lit (.bool false)], args := [d], vars := [g1] }
  | _ => none }
def FnExactNeedlessCluesWrongFalsely : Prop := fnExactNeedlessCluesRow.holds Tryd.pinned (OpenSpec.ofChange fnExactNeedlessCluesWrong)

/-- 'laws.FnExactDropClue': WHATEVER THE INPUT: true; the input reads as it did. -/
def fnExactDropClueSpec : ChangeSpec := { name := "fnExactDropClue", vars := ["loop.example/g01324/impl.boundsOfKinds"], fn := fun _ => fun
  | [d1, d2, g1] => { results := [.lit (.bool true)], args := [d1, d2], vars := [g1] }
  | _ => none }
def fnExactDropClueRow : OpenClaim := { program := "ytbgcbokddldmkaadoor", sum := "96e4143621c03b122a79ae915002c524dbbae0d5af425cc1e29feacdf4b58c68", func := "loop.example/g01324/laws.FnExactDropClue", spec := "fnExactDropClue", unfollowed := true, recurses := true, named := ["loop.example/g01324/impl.boundsOfKinds"], plainKeys := false, apart := false, laid := [("loop.example/g01324/impl.boundsOfKinds", laid_loop_example_g01324_impl_boundsOfKinds)] }
def FnExactDropClueSaid : Prop := fnExactDropClueRow.holds Tryd.pinned (OpenSpec.ofChange fnExactDropClueSpec)

/-- ITS FALSE NEIGHBOUR: 'it returns false'. Refute it at one input. -/
def fnExactDropClueWrong : ChangeSpec := { name := "fnExactDropClue", vars := ["loop.example/g01324/impl.boundsOfKinds"], fn := fun _ => fun
  | [d1, d2, g1] => { results := [.lit (.bool false)], args := [d1, d2], vars := [g1] }
  | _ => none }
def FnExactDropClueWrongFalsely : Prop := fnExactDropClueRow.holds Tryd.pinned (OpenSpec.ofChange fnExactDropClueWrong)

/-- 'laws.FnExactAddClue': WHATEVER THE INPUT: true; the input reads as it did. -/
def fnExactAddClueSpec : ChangeSpec := { name := "fnExactAddClue", vars := ["loop.example/g01324/impl.boundsOfKinds"], fn := fun _ => fun
  | [d1, d2, g1] => { results := [.lit (.bool true)], args := [d1, d2], vars := [g1] }
  | _ => none }
def fnExactAddClueRow : OpenClaim := { program := "ytbgcbokddldmkaadoor", sum := "96e4143621c03b122a79ae915002c524dbbae0d5af425cc1e29feacdf4b58c68", func := "loop.example/g01324/laws.FnExactAddClue", spec := "fnExactAddClue", unfollowed := true, recurses := true, named := ["loop.example/g01324/impl.boundsOfKinds"], plainKeys := false, apart := false, laid := [("loop.example/g01324/impl.boundsOfKinds", laid_loop_example_g01324_impl_boundsOfKinds)] }
def FnExactAddClueSaid : Prop := fnExactAddClueRow.holds Tryd.pinned (OpenSpec.ofChange fnExactAddClueSpec)

/-- ITS FALSE NEIGHBOUR: 'it returns false'. Refute it at one input. -/
def fnExactAddClueWrong : ChangeSpec := { name := "fnExactAddClue", vars := ["loop.example/g01324/impl.boundsOfKinds"], fn := fun _ => fun
  | [d1, d2, g1] => { results := [.lit (.bool false)], args := [d1, d2], vars := [g1] }
  | _ => none }
def FnExactAddClueWrongFalsely : Prop := fnExactAddClueRow.holds Tryd.pinned (OpenSpec.ofChange fnExactAddClueWrong)

/-- 'laws.FnExactBestClue': WHATEVER THE INPUT: true; the input reads as it did. -/
def fnExactBestClueSpec : ChangeSpec := { name := "fnExactBestClue", vars := ["loop.example/g01324/impl.boundsOfKinds"], fn := fun _ => fun
  | [d, g1] => { results := [.lit (.bool true)], args := [d], vars := [g1] }
  | _ => none }
def fnExactBestClueRow : OpenClaim := { program := "ytbgcbokddldmkaadoor", sum := "96e4143621c03b122a79ae915002c524dbbae0d5af425cc1e29feacdf4b58c68", func := "loop.example/g01324/laws.FnExactBestClue", spec := "fnExactBestClue", unfollowed := true, recurses := true, named := ["loop.example/g01324/impl.boundsOfKinds"], plainKeys := false, apart := false, laid := [("loop.example/g01324/impl.boundsOfKinds", laid_loop_example_g01324_impl_boundsOfKinds)] }
def FnExactBestClueSaid : Prop := fnExactBestClueRow.holds Tryd.pinned (OpenSpec.ofChange fnExactBestClueSpec)

/-- ITS FALSE NEIGHBOUR: 'it returns false'. Refute it at one input. -/
def fnExactBestClueWrong : ChangeSpec := { name := "fnExactBestClue", vars := ["loop.example/g01324/impl.boundsOfKinds"], fn := fun _ => fun
  | [d, g1] => { results := [.lit (.bool false)], args := [d], vars := [g1] }
  | _ => none }
def FnExactBestClueWrongFalsely : Prop := fnExactBestClueRow.holds Tryd.pinned (OpenSpec.ofChange fnExactBestClueWrong)

/-- 'laws.FnExactHarderPuzzle': WHATEVER THE INPUT: true; the input reads as it did. -/
def fnExactHarderPuzzleSpec : ChangeSpec := { name := "fnExactHarderPuzzle", vars := ["loop.example/g01324/impl.boundsOfKinds"], fn := fun _ => fun
  | [d, g1] => { results := [.lit (.bool true)], args := [d], vars := [g1] }
  | _ => none }
def fnExactHarderPuzzleRow : OpenClaim := { program := "ytbgcbokddldmkaadoor", sum := "96e4143621c03b122a79ae915002c524dbbae0d5af425cc1e29feacdf4b58c68", func := "loop.example/g01324/laws.FnExactHarderPuzzle", spec := "fnExactHarderPuzzle", unfollowed := true, recurses := true, named := ["loop.example/g01324/impl.boundsOfKinds"], plainKeys := false, apart := false, laid := [("loop.example/g01324/impl.boundsOfKinds", laid_loop_example_g01324_impl_boundsOfKinds)] }
def FnExactHarderPuzzleSaid : Prop := fnExactHarderPuzzleRow.holds Tryd.pinned (OpenSpec.ofChange fnExactHarderPuzzleSpec)

/-- ITS FALSE NEIGHBOUR: 'it returns false'. Refute it at one input. -/
def fnExactHarderPuzzleWrong : ChangeSpec := { name := "fnExactHarderPuzzle", vars := ["loop.example/g01324/impl.boundsOfKinds"], fn := fun _ => fun
  | [d, g1] => { results := [.lit (.bool false)], args := [d], vars := [g1] }
  | _ => none }
def FnExactHarderPuzzleWrongFalsely : Prop := fnExactHarderPuzzleRow.holds Tryd.pinned (OpenSpec.ofChange fnExactHarderPuzzleWrong)

/-- 'laws.FnExactPuzzleText': WHATEVER THE INPUT: true; the input reads as it did. -/
def fnExactPuzzleTextSpec : ChangeSpec := { name := "fnExactPuzzleText", vars := ["loop.example/g01324/impl.boundsOfKinds"], fn := fun _ => fun
  | [d, g1] => { results := [.lit (.bool true)], args := [d], vars := [g1] }
  | _ => none }
def fnExactPuzzleTextRow : OpenClaim := { program := "ytbgcbokddldmkaadoor", sum := "96e4143621c03b122a79ae915002c524dbbae0d5af425cc1e29feacdf4b58c68", func := "loop.example/g01324/laws.FnExactPuzzleText", spec := "fnExactPuzzleText", inPlace := ["internal/abi.NoEscape", "internal/bytealg.MakeNoZero"], unfollowed := true, recurses := true, named := ["loop.example/g01324/impl.boundsOfKinds", "internal/strconv.uint64pow10", "math/bits.deBruijn32tab", "math/bits.deBruijn64tab"], plainKeys := false, apart := false, laid := [("math/bits.deBruijn32tab", laid_math_bits_deBruijn32tab), ("math/bits.deBruijn64tab", laid_math_bits_deBruijn64tab), ("internal/strconv.uint64pow10", laid_internal_strconv_uint64pow10), ("loop.example/g01324/impl.boundsOfKinds", laid_loop_example_g01324_impl_boundsOfKinds)] }
def FnExactPuzzleTextSaid : Prop := fnExactPuzzleTextRow.holds Tryd.pinned (OpenSpec.ofChange fnExactPuzzleTextSpec)

/-- ITS FALSE NEIGHBOUR: 'it returns false'. Refute it at one input. -/
def fnExactPuzzleTextWrong : ChangeSpec := { name := "fnExactPuzzleText", vars := ["loop.example/g01324/impl.boundsOfKinds"], fn := fun _ => fun
  | [d, g1] => { results := [.lit (.bool false)], args := [d], vars := [g1] }
  | _ => none }
def FnExactPuzzleTextWrongFalsely : Prop := fnExactPuzzleTextRow.holds Tryd.pinned (OpenSpec.ofChange fnExactPuzzleTextWrong)

/-- 'laws.FnExactParsePuzzle': WHATEVER THE INPUT: true; the input reads as it did. -/
def fnExactParsePuzzleSpec : ChangeSpec := { name := "fnExactParsePuzzle", vars := ["loop.example/g01324/impl.boundsOfKinds"], fn := fun _ => fun
  | [d, g1] => { results := [.lit (.bool true)], args := [d], vars := [g1] }
  | _ => none }
def fnExactParsePuzzleRow : OpenClaim := { program := "ytbgcbokddldmkaadoor", sum := "96e4143621c03b122a79ae915002c524dbbae0d5af425cc1e29feacdf4b58c68", func := "loop.example/g01324/laws.FnExactParsePuzzle", spec := "fnExactParsePuzzle", inPlace := ["internal/bytealg.CountString", "internal/bytealg.IndexByteString", "internal/bytealg.IndexString"], unfollowed := true, recurses := true, named := ["unicode/utf8.first", "unicode/utf8.acceptRanges", "internal/bytealg.MaxLen", "strconv.ErrSyntax", "strconv.ErrRange", "internal/strconv.uint64pow10", "math/bits.deBruijn32tab", "math/bits.deBruijn64tab", "loop.example/g01324/impl.boundsOfKinds"], plainKeys := false, apart := false, laid := [("math/bits.deBruijn32tab", laid_math_bits_deBruijn32tab), ("math/bits.deBruijn64tab", laid_math_bits_deBruijn64tab), ("internal/strconv.uint64pow10", laid_internal_strconv_uint64pow10), ("unicode/utf8.acceptRanges", laid_unicode_utf8_acceptRanges), ("strconv.ErrRange", laid_strconv_ErrRange), ("strconv.ErrSyntax", laid_strconv_ErrSyntax), ("loop.example/g01324/impl.boundsOfKinds", laid_loop_example_g01324_impl_boundsOfKinds), ("unicode/utf8.first", laid_unicode_utf8_first)] }
def FnExactParsePuzzleSaid : Prop := fnExactParsePuzzleRow.holds Tryd.pinned (OpenSpec.ofChange fnExactParsePuzzleSpec)

/-- ITS FALSE NEIGHBOUR: 'it returns false'. Refute it at one input. -/
def fnExactParsePuzzleWrong : ChangeSpec := { name := "fnExactParsePuzzle", vars := ["loop.example/g01324/impl.boundsOfKinds"], fn := fun _ => fun
  | [d, g1] => { results := [.lit (.bool false)], args := [d], vars := [g1] }
  | _ => none }
def FnExactParsePuzzleWrongFalsely : Prop := fnExactParsePuzzleRow.holds Tryd.pinned (OpenSpec.ofChange fnExactParsePuzzleWrong)

/-- 'laws.FnExactParseStar': WHATEVER THE INPUT: true; the input reads as it did. -/
def fnExactParseStarSpec : ChangeSpec := { name := "fnExactParseStar", fn := fun _ => fun
  | [d] => { results := [.lit (.bool true)], args := [d] }
  | _ => none }
def fnExactParseStarRow : OpenClaim := { program := "ytbgcbokddldmkaadoor", sum := "96e4143621c03b122a79ae915002c524dbbae0d5af425cc1e29feacdf4b58c68", func := "loop.example/g01324/laws.FnExactParseStar", spec := "fnExactParseStar", inPlace := ["internal/bytealg.IndexByteString", "internal/bytealg.IndexString"], named := ["internal/bytealg.MaxLen", "strconv.ErrSyntax", "strconv.ErrRange", "internal/strconv.uint64pow10", "math/bits.deBruijn32tab", "math/bits.deBruijn64tab"], plainKeys := false, apart := false, laid := [("math/bits.deBruijn32tab", laid_math_bits_deBruijn32tab), ("math/bits.deBruijn64tab", laid_math_bits_deBruijn64tab), ("internal/strconv.uint64pow10", laid_internal_strconv_uint64pow10), ("strconv.ErrRange", laid_strconv_ErrRange), ("strconv.ErrSyntax", laid_strconv_ErrSyntax)] }
def FnExactParseStarSaid : Prop := fnExactParseStarRow.holds Tryd.pinned (OpenSpec.ofChange fnExactParseStarSpec)

/-- ITS FALSE NEIGHBOUR: 'it returns false'. Refute it at one input. -/
def fnExactParseStarWrong : ChangeSpec := { name := "fnExactParseStar", fn := fun _ => fun
  | [d] => { results := [.lit (.bool false)], args := [d] }
  | _ => none }
def FnExactParseStarWrongFalsely : Prop := fnExactParseStarRow.holds Tryd.pinned (OpenSpec.ofChange fnExactParseStarWrong)

/-- 'laws.FnExactParseChords': WHATEVER THE INPUT: true; the input reads as it did. -/
def fnExactParseChordsSpec : ChangeSpec := { name := "fnExactParseChords", fn := fun _ => fun
  | [d] => { results := [.lit (.bool true)], args := [d] }
  | _ => none }
def fnExactParseChordsRow : OpenClaim := { program := "ytbgcbokddldmkaadoor", sum := "96e4143621c03b122a79ae915002c524dbbae0d5af425cc1e29feacdf4b58c68", func := "loop.example/g01324/laws.FnExactParseChords", spec := "fnExactParseChords", inPlace := ["internal/bytealg.CountString", "internal/bytealg.IndexByteString", "internal/bytealg.IndexString"], recurses := true, named := ["unicode/utf8.first", "unicode/utf8.acceptRanges", "internal/bytealg.MaxLen", "strconv.ErrSyntax", "strconv.ErrRange", "internal/strconv.uint64pow10", "math/bits.deBruijn32tab", "math/bits.deBruijn64tab"], plainKeys := false, apart := false, laid := [("math/bits.deBruijn32tab", laid_math_bits_deBruijn32tab), ("math/bits.deBruijn64tab", laid_math_bits_deBruijn64tab), ("internal/strconv.uint64pow10", laid_internal_strconv_uint64pow10), ("unicode/utf8.acceptRanges", laid_unicode_utf8_acceptRanges), ("strconv.ErrRange", laid_strconv_ErrRange), ("strconv.ErrSyntax", laid_strconv_ErrSyntax), ("unicode/utf8.first", laid_unicode_utf8_first)] }
def FnExactParseChordsSaid : Prop := fnExactParseChordsRow.holds Tryd.pinned (OpenSpec.ofChange fnExactParseChordsSpec)

/-- ITS FALSE NEIGHBOUR: 'it returns false'. Refute it at one input. -/
def fnExactParseChordsWrong : ChangeSpec := { name := "fnExactParseChords", fn := fun _ => fun
  | [d] => { results := [.lit (.bool false)], args := [d] }
  | _ => none }
def FnExactParseChordsWrongFalsely : Prop := fnExactParseChordsRow.holds Tryd.pinned (OpenSpec.ofChange fnExactParseChordsWrong)

/-- 'laws.FnExactParseThreads': WHATEVER THE INPUT: true; the input reads as it did. -/
def fnExactParseThreadsSpec : ChangeSpec := { name := "fnExactParseThreads", fn := fun _ => fun
  | [d] => { results := [.lit (.bool true)], args := [d] }
  | _ => none }
def fnExactParseThreadsRow : OpenClaim := { program := "ytbgcbokddldmkaadoor", sum := "96e4143621c03b122a79ae915002c524dbbae0d5af425cc1e29feacdf4b58c68", func := "loop.example/g01324/laws.FnExactParseThreads", spec := "fnExactParseThreads", inPlace := ["internal/bytealg.CountString", "internal/bytealg.IndexByteString", "internal/bytealg.IndexString"], recurses := true, named := ["unicode/utf8.first", "unicode/utf8.acceptRanges", "internal/bytealg.MaxLen", "strconv.ErrSyntax", "strconv.ErrRange", "internal/strconv.uint64pow10", "math/bits.deBruijn32tab", "math/bits.deBruijn64tab"], plainKeys := false, apart := false, laid := [("math/bits.deBruijn32tab", laid_math_bits_deBruijn32tab), ("math/bits.deBruijn64tab", laid_math_bits_deBruijn64tab), ("internal/strconv.uint64pow10", laid_internal_strconv_uint64pow10), ("unicode/utf8.acceptRanges", laid_unicode_utf8_acceptRanges), ("strconv.ErrRange", laid_strconv_ErrRange), ("strconv.ErrSyntax", laid_strconv_ErrSyntax), ("unicode/utf8.first", laid_unicode_utf8_first)] }
def FnExactParseThreadsSaid : Prop := fnExactParseThreadsRow.holds Tryd.pinned (OpenSpec.ofChange fnExactParseThreadsSpec)

/-- ITS FALSE NEIGHBOUR: 'it returns false'. Refute it at one input. -/
def fnExactParseThreadsWrong : ChangeSpec := { name := "fnExactParseThreads", fn := fun _ => fun
  | [d] => { results := [.lit (.bool false)], args := [d] }
  | _ => none }
def FnExactParseThreadsWrongFalsely : Prop := fnExactParseThreadsRow.holds Tryd.pinned (OpenSpec.ofChange fnExactParseThreadsWrong)

/-- 'laws.FnExactCountClosed': WHATEVER THE INPUT: true; the input reads as it did. -/
def fnExactCountClosedSpec : ChangeSpec := { name := "fnExactCountClosed", vars := ["loop.example/g01324/impl.squareSteps", "loop.example/g01324/impl.triangleSteps"], fn := fun _ => fun
  | [d1, d2, g1, g2] => { results := [.lit (.bool true)], args := [d1, d2], vars := [g1, g2] }
  | _ => none }
def fnExactCountClosedRow : OpenClaim := { program := "ytbgcbokddldmkaadoor", sum := "96e4143621c03b122a79ae915002c524dbbae0d5af425cc1e29feacdf4b58c68", func := "loop.example/g01324/laws.FnExactCountClosed", spec := "fnExactCountClosed", recurses := true, named := ["loop.example/g01324/impl.squareSteps", "loop.example/g01324/impl.triangleSteps"], plainKeys := false, apart := false, laid := [("loop.example/g01324/impl.squareSteps", laid_loop_example_g01324_impl_squareSteps), ("loop.example/g01324/impl.triangleSteps", laid_loop_example_g01324_impl_triangleSteps)] }
def FnExactCountClosedSaid : Prop := fnExactCountClosedRow.holds Tryd.pinned (OpenSpec.ofChange fnExactCountClosedSpec)

/-- ITS FALSE NEIGHBOUR: 'it returns false'. Refute it at one input. -/
def fnExactCountClosedWrong : ChangeSpec := { name := "fnExactCountClosed", vars := ["loop.example/g01324/impl.squareSteps", "loop.example/g01324/impl.triangleSteps"], fn := fun _ => fun
  | [d1, d2, g1, g2] => { results := [.lit (.bool false)], args := [d1, d2], vars := [g1, g2] }
  | _ => none }
def FnExactCountClosedWrongFalsely : Prop := fnExactCountClosedRow.holds Tryd.pinned (OpenSpec.ofChange fnExactCountClosedWrong)

/- THE SECOND FORM. 'bulk': how many values and letters a reading holds, each counted each time it is reached (what is shared counts as often as it is met; a slice's spare places count too). A statement '..UptoSaid' is the law's where the arguments, and the package variables that the reading takes, are together of bulk at most 1048576: NARROWER than '..Said'. Prove '..Said' where nothing that the law and all that it calls make is longer than what came in: it says more and counts as full. Else prove '..UptoSaid'. A law counts once. -/
mutual
def uptoBulk {H : Type} : DataW H → Nat
  | .lit (.string bytes) => bytes.length + 1
  | .lit _ => 1
  | .nil => 1
  | .ptr d => uptoBulk d + 1
  | .slice elems spare => uptoBulkAll elems + uptoBulkAll spare + 1
  | .agg parts => uptoBulkAll parts + 1
  | .iface _ d => uptoBulk d + 1
  | .map entries => uptoBulkEntries entries + 1
  | .held _ => 1
def uptoBulkAll {H : Type} : List (DataW H) → Nat
  | [] => 0
  | d :: r => uptoBulk d + uptoBulkAll r
def uptoBulkEntries {H : Type} : List (Lit × DataW H) → Nat
  | [] => 0
  | x :: r => uptoBulkEntry x + uptoBulkEntries r
def uptoBulkEntry {H : Type} : Lit × DataW H → Nat
  | (.string bytes, d) => bytes.length + uptoBulk d + 1
  | (_, d) => uptoBulk d + 1
 end
def uptoSmall : (H : Type) → List (DataW H) → Bool := fun _ ds => decide (uptoBulkAll ds ≤ 1048576)
def OpenSpec.upto (s : _root_.Go.ChangeSpec) : _root_.Go.OpenSpec := { _root_.Go.OpenSpec.ofChange s with cond := some uptoSmall }

/-- 'laws.FnExactNeedlessClues', WHERE WHAT IT READS IS OF BULK AT MOST 1048576: true; the input reads as it did. -/
def fnExactNeedlessCluesUptoRow : OpenClaim := { program := "ytbgcbokddldmkaadoor", sum := "96e4143621c03b122a79ae915002c524dbbae0d5af425cc1e29feacdf4b58c68", func := "loop.example/g01324/laws.FnExactNeedlessClues", spec := "fnExactNeedlessClues", unfollowed := true, recurses := true, named := ["loop.example/g01324/impl.boundsOfKinds"], plainKeys := false, apart := false, laid := [("loop.example/g01324/impl.boundsOfKinds", laid_loop_example_g01324_impl_boundsOfKinds)], narrowed := true }
def FnExactNeedlessCluesUptoSaid : Prop := fnExactNeedlessCluesUptoRow.holds Tryd.pinned (OpenSpec.upto fnExactNeedlessCluesSpec)

/-- 'laws.FnExactDropClue', WHERE WHAT IT READS IS OF BULK AT MOST 1048576: true; the input reads as it did. -/
def fnExactDropClueUptoRow : OpenClaim := { program := "ytbgcbokddldmkaadoor", sum := "96e4143621c03b122a79ae915002c524dbbae0d5af425cc1e29feacdf4b58c68", func := "loop.example/g01324/laws.FnExactDropClue", spec := "fnExactDropClue", unfollowed := true, recurses := true, named := ["loop.example/g01324/impl.boundsOfKinds"], plainKeys := false, apart := false, laid := [("loop.example/g01324/impl.boundsOfKinds", laid_loop_example_g01324_impl_boundsOfKinds)], narrowed := true }
def FnExactDropClueUptoSaid : Prop := fnExactDropClueUptoRow.holds Tryd.pinned (OpenSpec.upto fnExactDropClueSpec)

/-- 'laws.FnExactAddClue', WHERE WHAT IT READS IS OF BULK AT MOST 1048576: true; the input reads as it did. -/
def fnExactAddClueUptoRow : OpenClaim := { program := "ytbgcbokddldmkaadoor", sum := "96e4143621c03b122a79ae915002c524dbbae0d5af425cc1e29feacdf4b58c68", func := "loop.example/g01324/laws.FnExactAddClue", spec := "fnExactAddClue", unfollowed := true, recurses := true, named := ["loop.example/g01324/impl.boundsOfKinds"], plainKeys := false, apart := false, laid := [("loop.example/g01324/impl.boundsOfKinds", laid_loop_example_g01324_impl_boundsOfKinds)], narrowed := true }
def FnExactAddClueUptoSaid : Prop := fnExactAddClueUptoRow.holds Tryd.pinned (OpenSpec.upto fnExactAddClueSpec)

/-- 'laws.FnExactBestClue', WHERE WHAT IT READS IS OF BULK AT MOST 1048576: true; the input reads as it did. -/
def fnExactBestClueUptoRow : OpenClaim := { program := "ytbgcbokddldmkaadoor", sum := "96e4143621c03b122a79ae915002c524dbbae0d5af425cc1e29feacdf4b58c68", func := "loop.example/g01324/laws.FnExactBestClue", spec := "fnExactBestClue", unfollowed := true, recurses := true, named := ["loop.example/g01324/impl.boundsOfKinds"], plainKeys := false, apart := false, laid := [("loop.example/g01324/impl.boundsOfKinds", laid_loop_example_g01324_impl_boundsOfKinds)], narrowed := true }
def FnExactBestClueUptoSaid : Prop := fnExactBestClueUptoRow.holds Tryd.pinned (OpenSpec.upto fnExactBestClueSpec)

/-- 'laws.FnExactHarderPuzzle', WHERE WHAT IT READS IS OF BULK AT MOST 1048576: true; the input reads as it did. -/
def fnExactHarderPuzzleUptoRow : OpenClaim := { program := "ytbgcbokddldmkaadoor", sum := "96e4143621c03b122a79ae915002c524dbbae0d5af425cc1e29feacdf4b58c68", func := "loop.example/g01324/laws.FnExactHarderPuzzle", spec := "fnExactHarderPuzzle", unfollowed := true, recurses := true, named := ["loop.example/g01324/impl.boundsOfKinds"], plainKeys := false, apart := false, laid := [("loop.example/g01324/impl.boundsOfKinds", laid_loop_example_g01324_impl_boundsOfKinds)], narrowed := true }
def FnExactHarderPuzzleUptoSaid : Prop := fnExactHarderPuzzleUptoRow.holds Tryd.pinned (OpenSpec.upto fnExactHarderPuzzleSpec)

/-- 'laws.FnExactPuzzleText', WHERE WHAT IT READS IS OF BULK AT MOST 1048576: true; the input reads as it did. -/
def fnExactPuzzleTextUptoRow : OpenClaim := { program := "ytbgcbokddldmkaadoor", sum := "96e4143621c03b122a79ae915002c524dbbae0d5af425cc1e29feacdf4b58c68", func := "loop.example/g01324/laws.FnExactPuzzleText", spec := "fnExactPuzzleText", inPlace := ["internal/abi.NoEscape", "internal/bytealg.MakeNoZero"], unfollowed := true, recurses := true, named := ["loop.example/g01324/impl.boundsOfKinds", "internal/strconv.uint64pow10", "math/bits.deBruijn32tab", "math/bits.deBruijn64tab"], plainKeys := false, apart := false, laid := [("math/bits.deBruijn32tab", laid_math_bits_deBruijn32tab), ("math/bits.deBruijn64tab", laid_math_bits_deBruijn64tab), ("internal/strconv.uint64pow10", laid_internal_strconv_uint64pow10), ("loop.example/g01324/impl.boundsOfKinds", laid_loop_example_g01324_impl_boundsOfKinds)], narrowed := true }
def FnExactPuzzleTextUptoSaid : Prop := fnExactPuzzleTextUptoRow.holds Tryd.pinned (OpenSpec.upto fnExactPuzzleTextSpec)

/-- 'laws.FnExactParsePuzzle', WHERE WHAT IT READS IS OF BULK AT MOST 1048576: true; the input reads as it did. -/
def fnExactParsePuzzleUptoRow : OpenClaim := { program := "ytbgcbokddldmkaadoor", sum := "96e4143621c03b122a79ae915002c524dbbae0d5af425cc1e29feacdf4b58c68", func := "loop.example/g01324/laws.FnExactParsePuzzle", spec := "fnExactParsePuzzle", inPlace := ["internal/bytealg.CountString", "internal/bytealg.IndexByteString", "internal/bytealg.IndexString"], unfollowed := true, recurses := true, named := ["unicode/utf8.first", "unicode/utf8.acceptRanges", "internal/bytealg.MaxLen", "strconv.ErrSyntax", "strconv.ErrRange", "internal/strconv.uint64pow10", "math/bits.deBruijn32tab", "math/bits.deBruijn64tab", "loop.example/g01324/impl.boundsOfKinds"], plainKeys := false, apart := false, laid := [("math/bits.deBruijn32tab", laid_math_bits_deBruijn32tab), ("math/bits.deBruijn64tab", laid_math_bits_deBruijn64tab), ("internal/strconv.uint64pow10", laid_internal_strconv_uint64pow10), ("unicode/utf8.acceptRanges", laid_unicode_utf8_acceptRanges), ("strconv.ErrRange", laid_strconv_ErrRange), ("strconv.ErrSyntax", laid_strconv_ErrSyntax), ("loop.example/g01324/impl.boundsOfKinds", laid_loop_example_g01324_impl_boundsOfKinds), ("unicode/utf8.first", laid_unicode_utf8_first)], narrowed := true }
def FnExactParsePuzzleUptoSaid : Prop := fnExactParsePuzzleUptoRow.holds Tryd.pinned (OpenSpec.upto fnExactParsePuzzleSpec)

/-- 'laws.FnExactParseStar', WHERE WHAT IT READS IS OF BULK AT MOST 1048576: true; the input reads as it did. -/
def fnExactParseStarUptoRow : OpenClaim := { program := "ytbgcbokddldmkaadoor", sum := "96e4143621c03b122a79ae915002c524dbbae0d5af425cc1e29feacdf4b58c68", func := "loop.example/g01324/laws.FnExactParseStar", spec := "fnExactParseStar", inPlace := ["internal/bytealg.IndexByteString", "internal/bytealg.IndexString"], named := ["internal/bytealg.MaxLen", "strconv.ErrSyntax", "strconv.ErrRange", "internal/strconv.uint64pow10", "math/bits.deBruijn32tab", "math/bits.deBruijn64tab"], plainKeys := false, apart := false, laid := [("math/bits.deBruijn32tab", laid_math_bits_deBruijn32tab), ("math/bits.deBruijn64tab", laid_math_bits_deBruijn64tab), ("internal/strconv.uint64pow10", laid_internal_strconv_uint64pow10), ("strconv.ErrRange", laid_strconv_ErrRange), ("strconv.ErrSyntax", laid_strconv_ErrSyntax)], narrowed := true }
def FnExactParseStarUptoSaid : Prop := fnExactParseStarUptoRow.holds Tryd.pinned (OpenSpec.upto fnExactParseStarSpec)

/-- 'laws.FnExactParseChords', WHERE WHAT IT READS IS OF BULK AT MOST 1048576: true; the input reads as it did. -/
def fnExactParseChordsUptoRow : OpenClaim := { program := "ytbgcbokddldmkaadoor", sum := "96e4143621c03b122a79ae915002c524dbbae0d5af425cc1e29feacdf4b58c68", func := "loop.example/g01324/laws.FnExactParseChords", spec := "fnExactParseChords", inPlace := ["internal/bytealg.CountString", "internal/bytealg.IndexByteString", "internal/bytealg.IndexString"], recurses := true, named := ["unicode/utf8.first", "unicode/utf8.acceptRanges", "internal/bytealg.MaxLen", "strconv.ErrSyntax", "strconv.ErrRange", "internal/strconv.uint64pow10", "math/bits.deBruijn32tab", "math/bits.deBruijn64tab"], plainKeys := false, apart := false, laid := [("math/bits.deBruijn32tab", laid_math_bits_deBruijn32tab), ("math/bits.deBruijn64tab", laid_math_bits_deBruijn64tab), ("internal/strconv.uint64pow10", laid_internal_strconv_uint64pow10), ("unicode/utf8.acceptRanges", laid_unicode_utf8_acceptRanges), ("strconv.ErrRange", laid_strconv_ErrRange), ("strconv.ErrSyntax", laid_strconv_ErrSyntax), ("unicode/utf8.first", laid_unicode_utf8_first)], narrowed := true }
def FnExactParseChordsUptoSaid : Prop := fnExactParseChordsUptoRow.holds Tryd.pinned (OpenSpec.upto fnExactParseChordsSpec)

/-- 'laws.FnExactParseThreads', WHERE WHAT IT READS IS OF BULK AT MOST 1048576: true; the input reads as it did. -/
def fnExactParseThreadsUptoRow : OpenClaim := { program := "ytbgcbokddldmkaadoor", sum := "96e4143621c03b122a79ae915002c524dbbae0d5af425cc1e29feacdf4b58c68", func := "loop.example/g01324/laws.FnExactParseThreads", spec := "fnExactParseThreads", inPlace := ["internal/bytealg.CountString", "internal/bytealg.IndexByteString", "internal/bytealg.IndexString"], recurses := true, named := ["unicode/utf8.first", "unicode/utf8.acceptRanges", "internal/bytealg.MaxLen", "strconv.ErrSyntax", "strconv.ErrRange", "internal/strconv.uint64pow10", "math/bits.deBruijn32tab", "math/bits.deBruijn64tab"], plainKeys := false, apart := false, laid := [("math/bits.deBruijn32tab", laid_math_bits_deBruijn32tab), ("math/bits.deBruijn64tab", laid_math_bits_deBruijn64tab), ("internal/strconv.uint64pow10", laid_internal_strconv_uint64pow10), ("unicode/utf8.acceptRanges", laid_unicode_utf8_acceptRanges), ("strconv.ErrRange", laid_strconv_ErrRange), ("strconv.ErrSyntax", laid_strconv_ErrSyntax), ("unicode/utf8.first", laid_unicode_utf8_first)], narrowed := true }
def FnExactParseThreadsUptoSaid : Prop := fnExactParseThreadsUptoRow.holds Tryd.pinned (OpenSpec.upto fnExactParseThreadsSpec)

/-- 'laws.FnExactCountClosed', WHERE WHAT IT READS IS OF BULK AT MOST 1048576: true; the input reads as it did. -/
def fnExactCountClosedUptoRow : OpenClaim := { program := "ytbgcbokddldmkaadoor", sum := "96e4143621c03b122a79ae915002c524dbbae0d5af425cc1e29feacdf4b58c68", func := "loop.example/g01324/laws.FnExactCountClosed", spec := "fnExactCountClosed", recurses := true, named := ["loop.example/g01324/impl.squareSteps", "loop.example/g01324/impl.triangleSteps"], plainKeys := false, apart := false, laid := [("loop.example/g01324/impl.squareSteps", laid_loop_example_g01324_impl_squareSteps), ("loop.example/g01324/impl.triangleSteps", laid_loop_example_g01324_impl_triangleSteps)], narrowed := true }
def FnExactCountClosedUptoSaid : Prop := fnExactCountClosedUptoRow.holds Tryd.pinned (OpenSpec.upto fnExactCountClosedSpec)

end Rows
end Go.Proofs.YtbgcbokddldmkaaDoor
