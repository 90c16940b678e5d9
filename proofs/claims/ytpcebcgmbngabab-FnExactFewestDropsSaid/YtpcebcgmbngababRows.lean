/-
  No cell of these rows narrows 'for every input' (looked for: loops, veiled, ifaces, maps, wideKeys, modest, calm, conditions, laid).
  DERIVED. THE GIVEN ROWS OF THIS SEAT. 9 by the template 'for every input the law returns true; each argument reads behind the call as it read before'; 0 by the template 'total and deterministic' (their statements: YtpcebcgmbngababTotals.lean).
  GIVEN WITH THE SEED: the statements are not yours to turn. If you find one false, say at which input.
  Laid BY PROGRAM, IN A SANDBOX (cutbox-rows.mjs): the forced cells as the released guide's own fill.sh prints them over the translation aa42f85dfaa4433c… (all of the seat's roots in one cut). By AI agents, Wed Nov 11 2026. No macro, syntax, notation, axiom, sorry.
-/
import Derived.Test.YtpcebcgmbngababChecked
import GoSem.Claim
import GoSem.ClaimJoined
import GoSem.ClaimMapViews
import Derived.JoinedTies
import Derived.KernelRfl
namespace Go.Proofs.Ytpcebcgmbngabab
/- THE CELL 'sum', in the pinned program and in every row, IS THE sha256 OF THE DUMP (.gsa) THAT YtpcebcgmbngababProg.lean LOADS. Nothing in Lean hashes anything: it is a label: what it is worth is what the hold of that sum in a sandbox is worth. -/
noncomputable def Try.pinned : Pinned := { name := "ytpcebcgmbngabab", sum := "aa42f85dfaa4433cfbbf49f0ca288e99afc5b629c367369a613d11fc5a70e2b7", checked := Try.checked }
namespace Rows
def none {H : Type} : Left H := { results := [], args := [] }

/-- 'laws.FnExactCountLoops': WHATEVER THE INPUT: true; the input reads as it did. -/
def fnExactCountLoopsSpec : ChangeSpec := { name := "fnExactCountLoops", fn := fun _ => fun
  | [d] => { results := [.lit (.bool true)], args := [d] }
  | _ => none }
def fnExactCountLoopsRow : OpenClaim := { program := "ytpcebcgmbngabab", sum := "aa42f85dfaa4433cfbbf49f0ca288e99afc5b629c367369a613d11fc5a70e2b7", func := "loop.example/g01324/laws.FnExactCountLoops", spec := "fnExactCountLoops", apart := false }
def FnExactCountLoopsSaid : Prop := fnExactCountLoopsRow.holds Try.pinned (OpenSpec.ofChange fnExactCountLoopsSpec)

/-- ITS FALSE NEIGHBOUR: 'it returns false'. Refute it at one input. -/
def fnExactCountLoopsWrong : ChangeSpec := { name := "fnExactCountLoops", fn := fun _ => fun
  | [d] => { results := [.lit (.bool false)], args := [d] }
  | _ => none }
def FnExactCountLoopsWrongFalsely : Prop := fnExactCountLoopsRow.holds Try.pinned (OpenSpec.ofChange fnExactCountLoopsWrong)

/-- 'laws.FnExactLoopOfRank': WHATEVER THE INPUT: true; the input reads as it did. -/
def fnExactLoopOfRankSpec : ChangeSpec := { name := "fnExactLoopOfRank", fn := fun _ => fun
  | [d1, d2] => { results := [.lit (.bool true)], args := [d1, d2] }
  | _ => none }
def fnExactLoopOfRankRow : OpenClaim := { program := "ytpcebcgmbngabab", sum := "aa42f85dfaa4433cfbbf49f0ca288e99afc5b629c367369a613d11fc5a70e2b7", func := "loop.example/g01324/laws.FnExactLoopOfRank", spec := "fnExactLoopOfRank", recurses := true, apart := false }
def FnExactLoopOfRankSaid : Prop := fnExactLoopOfRankRow.holds Try.pinned (OpenSpec.ofChange fnExactLoopOfRankSpec)

/-- ITS FALSE NEIGHBOUR: 'it returns false'. Refute it at one input. -/
def fnExactLoopOfRankWrong : ChangeSpec := { name := "fnExactLoopOfRank", fn := fun _ => fun
  | [d1, d2] => { results := [.lit (.bool false)], args := [d1, d2] }
  | _ => none }
def FnExactLoopOfRankWrongFalsely : Prop := fnExactLoopOfRankRow.holds Try.pinned (OpenSpec.ofChange fnExactLoopOfRankWrong)

/-- 'laws.FnExactRankOfLoop': WHATEVER THE INPUT: true; the input reads as it did. -/
def fnExactRankOfLoopSpec : ChangeSpec := { name := "fnExactRankOfLoop", fn := fun _ => fun
  | [d] => { results := [.lit (.bool true)], args := [d] }
  | _ => none }
def fnExactRankOfLoopRow : OpenClaim := { program := "ytpcebcgmbngabab", sum := "aa42f85dfaa4433cfbbf49f0ca288e99afc5b629c367369a613d11fc5a70e2b7", func := "loop.example/g01324/laws.FnExactRankOfLoop", spec := "fnExactRankOfLoop", unfollowed := true, recurses := true, apart := false }
def FnExactRankOfLoopSaid : Prop := fnExactRankOfLoopRow.holds Try.pinned (OpenSpec.ofChange fnExactRankOfLoopSpec)

/-- ITS FALSE NEIGHBOUR: 'it returns false'. Refute it at one input. -/
def fnExactRankOfLoopWrong : ChangeSpec := { name := "fnExactRankOfLoop", fn := fun _ => fun
  | [d] => { results := [.lit (.bool false)], args := [d] }
  | _ => none }
def FnExactRankOfLoopWrongFalsely : Prop := fnExactRankOfLoopRow.holds Try.pinned (OpenSpec.ofChange fnExactRankOfLoopWrong)

/-- 'laws.FnExactJoinLoops': WHATEVER THE INPUT: true; the input reads as it did. -/
def fnExactJoinLoopsSpec : ChangeSpec := { name := "fnExactJoinLoops", fn := fun _ => fun
  | [d1, d2] => { results := [.lit (.bool true)], args := [d1, d2] }
  | _ => none }
def fnExactJoinLoopsRow : OpenClaim := { program := "ytpcebcgmbngabab", sum := "aa42f85dfaa4433cfbbf49f0ca288e99afc5b629c367369a613d11fc5a70e2b7", func := "loop.example/g01324/laws.FnExactJoinLoops", spec := "fnExactJoinLoops", apart := false }
def FnExactJoinLoopsSaid : Prop := fnExactJoinLoopsRow.holds Try.pinned (OpenSpec.ofChange fnExactJoinLoopsSpec)

/-- ITS FALSE NEIGHBOUR: 'it returns false'. Refute it at one input. -/
def fnExactJoinLoopsWrong : ChangeSpec := { name := "fnExactJoinLoops", fn := fun _ => fun
  | [d1, d2] => { results := [.lit (.bool false)], args := [d1, d2] }
  | _ => none }
def FnExactJoinLoopsWrongFalsely : Prop := fnExactJoinLoopsRow.holds Try.pinned (OpenSpec.ofChange fnExactJoinLoopsWrong)

/-- 'laws.FnExactAllLoops': WHATEVER THE INPUT: true; the input reads as it did. -/
def fnExactAllLoopsSpec : ChangeSpec := { name := "fnExactAllLoops", fn := fun _ => fun
  | [d] => { results := [.lit (.bool true)], args := [d] }
  | _ => none }
def fnExactAllLoopsRow : OpenClaim := { program := "ytpcebcgmbngabab", sum := "aa42f85dfaa4433cfbbf49f0ca288e99afc5b629c367369a613d11fc5a70e2b7", func := "loop.example/g01324/laws.FnExactAllLoops", spec := "fnExactAllLoops", recurses := true, apart := false }
def FnExactAllLoopsSaid : Prop := fnExactAllLoopsRow.holds Try.pinned (OpenSpec.ofChange fnExactAllLoopsSpec)

/-- ITS FALSE NEIGHBOUR: 'it returns false'. Refute it at one input. -/
def fnExactAllLoopsWrong : ChangeSpec := { name := "fnExactAllLoops", fn := fun _ => fun
  | [d] => { results := [.lit (.bool false)], args := [d] }
  | _ => none }
def FnExactAllLoopsWrongFalsely : Prop := fnExactAllLoopsRow.holds Try.pinned (OpenSpec.ofChange fnExactAllLoopsWrong)

/-- 'laws.FnExactCountDrawn': WHATEVER THE INPUT: true; the input reads as it did. -/
def fnExactCountDrawnSpec : ChangeSpec := { name := "fnExactCountDrawn", fn := fun _ => fun
  | [d] => { results := [.lit (.bool true)], args := [d] }
  | _ => none }
def fnExactCountDrawnRow : OpenClaim := { program := "ytpcebcgmbngabab", sum := "aa42f85dfaa4433cfbbf49f0ca288e99afc5b629c367369a613d11fc5a70e2b7", func := "loop.example/g01324/laws.FnExactCountDrawn", spec := "fnExactCountDrawn", unfollowed := true, recurses := true, apart := false }
def FnExactCountDrawnSaid : Prop := fnExactCountDrawnRow.holds Try.pinned (OpenSpec.ofChange fnExactCountDrawnSpec)

/-- ITS FALSE NEIGHBOUR: 'it returns false'. Refute it at one input. -/
def fnExactCountDrawnWrong : ChangeSpec := { name := "fnExactCountDrawn", fn := fun _ => fun
  | [d] => { results := [.lit (.bool false)], args := [d] }
  | _ => none }
def FnExactCountDrawnWrongFalsely : Prop := fnExactCountDrawnRow.holds Try.pinned (OpenSpec.ofChange fnExactCountDrawnWrong)

/-- 'laws.FnExactEdgeThreads': WHATEVER THE INPUT: true; the input reads as it did. -/
def fnExactEdgeThreadsSpec : ChangeSpec := { name := "fnExactEdgeThreads", fn := fun _ => fun
  | [d] => { results := [.lit (.bool true)], args := [d] }
  | _ => none }
def fnExactEdgeThreadsRow : OpenClaim := { program := "ytpcebcgmbngabab", sum := "aa42f85dfaa4433cfbbf49f0ca288e99afc5b629c367369a613d11fc5a70e2b7", func := "loop.example/g01324/laws.FnExactEdgeThreads", spec := "fnExactEdgeThreads", apart := false }
def FnExactEdgeThreadsSaid : Prop := fnExactEdgeThreadsRow.holds Try.pinned (OpenSpec.ofChange fnExactEdgeThreadsSpec)

/-- ITS FALSE NEIGHBOUR: 'it returns false'. Refute it at one input. -/
def fnExactEdgeThreadsWrong : ChangeSpec := { name := "fnExactEdgeThreads", fn := fun _ => fun
  | [d] => { results := [.lit (.bool false)], args := [d] }
  | _ => none }
def FnExactEdgeThreadsWrongFalsely : Prop := fnExactEdgeThreadsRow.holds Try.pinned (OpenSpec.ofChange fnExactEdgeThreadsWrong)

/-- 'laws.FnExactEdgeCorners': WHATEVER THE INPUT: true; the input reads as it did. -/
def fnExactEdgeCornersSpec : ChangeSpec := { name := "fnExactEdgeCorners", fn := fun _ => fun
  | [d] => { results := [.lit (.bool true)], args := [d] }
  | _ => none }
def fnExactEdgeCornersRow : OpenClaim := { program := "ytpcebcgmbngabab", sum := "aa42f85dfaa4433cfbbf49f0ca288e99afc5b629c367369a613d11fc5a70e2b7", func := "loop.example/g01324/laws.FnExactEdgeCorners", spec := "fnExactEdgeCorners", apart := false }
def FnExactEdgeCornersSaid : Prop := fnExactEdgeCornersRow.holds Try.pinned (OpenSpec.ofChange fnExactEdgeCornersSpec)

/-- ITS FALSE NEIGHBOUR: 'it returns false'. Refute it at one input. -/
def fnExactEdgeCornersWrong : ChangeSpec := { name := "fnExactEdgeCorners", fn := fun _ => fun
  | [d] => { results := [.lit (.bool false)], args := [d] }
  | _ => none }
def FnExactEdgeCornersWrongFalsely : Prop := fnExactEdgeCornersRow.holds Try.pinned (OpenSpec.ofChange fnExactEdgeCornersWrong)

/-- 'laws.FnExactFewestDrops': WHATEVER THE INPUT: true; the input reads as it did. -/
def fnExactFewestDropsSpec : ChangeSpec := { name := "fnExactFewestDrops", fn := fun _ => fun
  | [d1, d2] => { results := [.lit (.bool true)], args := [d1, d2] }
  | _ => none }
def fnExactFewestDropsRow : OpenClaim := { program := "ytpcebcgmbngabab", sum := "aa42f85dfaa4433cfbbf49f0ca288e99afc5b629c367369a613d11fc5a70e2b7", func := "loop.example/g01324/laws.FnExactFewestDrops", spec := "fnExactFewestDrops", recurses := true, apart := false }
def FnExactFewestDropsSaid : Prop := fnExactFewestDropsRow.holds Try.pinned (OpenSpec.ofChange fnExactFewestDropsSpec)

/-- ITS FALSE NEIGHBOUR: 'it returns false'. Refute it at one input. -/
def fnExactFewestDropsWrong : ChangeSpec := { name := "fnExactFewestDrops", fn := fun _ => fun
  | [d1, d2] => { results := [.lit (.bool false)], args := [d1, d2] }
  | _ => none }
def FnExactFewestDropsWrongFalsely : Prop := fnExactFewestDropsRow.holds Try.pinned (OpenSpec.ofChange fnExactFewestDropsWrong)

/- THE SECOND FORM. 'bulk': how many values and letters a reading holds, each counted each time it is reached (what is shared counts as often as it is met; a slice's spare places count too). A statement '..UptoSaid' is the law's where the arguments, and the package variables that the reading takes, are together of bulk at most 1048576: NARROWER than '..Said'. Prove '..Said' where nothing that the law and all that it calls make is longer than what came in: it says more and counts as full. Else prove '..UptoSaid'. A law counts once. -/
mutual
def uptoBulk {H : Type} : DataW H → Nat
  | .lit (.string bytes) => bytes.length + 1
  | .lit _ => 1
  | .nil => 1
  | .ptr d => uptoBulk d + 1
  | .slice elems spare => uptoBulkAll elems + uptoBulkAll spare + 1
  | .agg parts => uptoBulkAll parts + 1
  | .iface _ d => uptoBulk d + 1
  | .map entries => uptoBulkEntries entries + 1
  | .held _ => 1
def uptoBulkAll {H : Type} : List (DataW H) → Nat
  | [] => 0
  | d :: r => uptoBulk d + uptoBulkAll r
def uptoBulkEntries {H : Type} : List (Lit × DataW H) → Nat
  | [] => 0
  | x :: r => uptoBulkEntry x + uptoBulkEntries r
def uptoBulkEntry {H : Type} : Lit × DataW H → Nat
  | (.string bytes, d) => bytes.length + uptoBulk d + 1
  | (_, d) => uptoBulk d + 1
 end
def uptoSmall : (H : Type) → List (DataW H) → Bool := fun _ ds => decide (uptoBulkAll ds ≤ 1048576)
def OpenSpec.upto (s : _root_.Go.ChangeSpec) : _root_.Go.OpenSpec := { _root_.Go.OpenSpec.ofChange s with cond := some uptoSmall }

/-- 'laws.FnExactCountLoops', WHERE WHAT IT READS IS OF BULK AT MOST 1048576: true; the input reads as it did. -/
def fnExactCountLoopsUptoRow : OpenClaim := { program := "ytpcebcgmbngabab", sum := "aa42f85dfaa4433cfbbf49f0ca288e99afc5b629c367369a613d11fc5a70e2b7", func := "loop.example/g01324/laws.FnExactCountLoops", spec := "fnExactCountLoops", apart := false, narrowed := true }
def FnExactCountLoopsUptoSaid : Prop := fnExactCountLoopsUptoRow.holds Try.pinned (OpenSpec.upto fnExactCountLoopsSpec)

/-- 'laws.FnExactLoopOfRank', WHERE WHAT IT READS IS OF BULK AT MOST 1048576: true; the input reads as it did. -/
def fnExactLoopOfRankUptoRow : OpenClaim := { program := "ytpcebcgmbngabab", sum := "aa42f85dfaa4433cfbbf49f0ca288e99afc5b629c367369a613d11fc5a70e2b7", func := "loop.example/g01324/laws.FnExactLoopOfRank", spec := "fnExactLoopOfRank", recurses := true, apart := false, narrowed := true }
def FnExactLoopOfRankUptoSaid : Prop := fnExactLoopOfRankUptoRow.holds Try.pinned (OpenSpec.upto fnExactLoopOfRankSpec)

/-- 'laws.FnExactRankOfLoop', WHERE WHAT IT READS IS OF BULK AT MOST 1048576: true; the input reads as it did. -/
def fnExactRankOfLoopUptoRow : OpenClaim := { program := "ytpcebcgmbngabab", sum := "aa42f85dfaa4433cfbbf49f0ca288e99afc5b629c367369a613d11fc5a70e2b7", func := "loop.example/g01324/laws.FnExactRankOfLoop", spec := "fnExactRankOfLoop", unfollowed := true, recurses := true, apart := false, narrowed := true }
def FnExactRankOfLoopUptoSaid : Prop := fnExactRankOfLoopUptoRow.holds Try.pinned (OpenSpec.upto fnExactRankOfLoopSpec)

/-- 'laws.FnExactJoinLoops', WHERE WHAT IT READS IS OF BULK AT MOST 1048576: true; the input reads as it did. -/
def fnExactJoinLoopsUptoRow : OpenClaim := { program := "ytpcebcgmbngabab", sum := "aa42f85dfaa4433cfbbf49f0ca288e99afc5b629c367369a613d11fc5a70e2b7", func := "loop.example/g01324/laws.FnExactJoinLoops", spec := "fnExactJoinLoops", apart := false, narrowed := true }
def FnExactJoinLoopsUptoSaid : Prop := fnExactJoinLoopsUptoRow.holds Try.pinned (OpenSpec.upto fnExactJoinLoopsSpec)

/-- 'laws.FnExactAllLoops', WHERE WHAT IT READS IS OF BULK AT MOST 1048576: true; the input reads as it did. -/
def fnExactAllLoopsUptoRow : OpenClaim := { program := "ytpcebcgmbngabab", sum := "aa42f85dfaa4433cfbbf49f0ca288e99afc5b629c367369a613d11fc5a70e2b7", func := "loop.example/g01324/laws.FnExactAllLoops", spec := "fnExactAllLoops", recurses := true, apart := false, narrowed := true }
def FnExactAllLoopsUptoSaid : Prop := fnExactAllLoopsUptoRow.holds Try.pinned (OpenSpec.upto fnExactAllLoopsSpec)

/-- 'laws.FnExactCountDrawn', WHERE WHAT IT READS IS OF BULK AT MOST 1048576: true; the input reads as it did. -/
def fnExactCountDrawnUptoRow : OpenClaim := { program := "ytpcebcgmbngabab", sum := "aa42f85dfaa4433cfbbf49f0ca288e99afc5b629c367369a613d11fc5a70e2b7", func := "loop.example/g01324/laws.FnExactCountDrawn", spec := "fnExactCountDrawn", unfollowed := true, recurses := true, apart := false, narrowed := true }
def FnExactCountDrawnUptoSaid : Prop := fnExactCountDrawnUptoRow.holds Try.pinned (OpenSpec.upto fnExactCountDrawnSpec)

/-- 'laws.FnExactEdgeThreads', WHERE WHAT IT READS IS OF BULK AT MOST 1048576: true; the input reads as it did. -/
def fnExactEdgeThreadsUptoRow : OpenClaim := { program := "ytpcebcgmbngabab", sum := "aa42f85dfaa4433cfbbf49f0ca288e99afc5b629c367369a613d11fc5a70e2b7", func := "loop.example/g01324/laws.FnExactEdgeThreads", spec := "fnExactEdgeThreads", apart := false, narrowed := true }
def FnExactEdgeThreadsUptoSaid : Prop := fnExactEdgeThreadsUptoRow.holds Try.pinned (OpenSpec.upto fnExactEdgeThreadsSpec)

/-- 'laws.FnExactEdgeCorners', WHERE WHAT IT READS IS OF BULK AT MOST 1048576: true; the input reads as it did. -/
def fnExactEdgeCornersUptoRow : OpenClaim := { program := "ytpcebcgmbngabab", sum := "aa42f85dfaa4433cfbbf49f0ca288e99afc5b629c367369a613d11fc5a70e2b7", func := "loop.example/g01324/laws.FnExactEdgeCorners", spec := "fnExactEdgeCorners", apart := false, narrowed := true }
def FnExactEdgeCornersUptoSaid : Prop := fnExactEdgeCornersUptoRow.holds Try.pinned (OpenSpec.upto fnExactEdgeCornersSpec)

/-- 'laws.FnExactFewestDrops', WHERE WHAT IT READS IS OF BULK AT MOST 1048576: true; the input reads as it did. -/
def fnExactFewestDropsUptoRow : OpenClaim := { program := "ytpcebcgmbngabab", sum := "aa42f85dfaa4433cfbbf49f0ca288e99afc5b629c367369a613d11fc5a70e2b7", func := "loop.example/g01324/laws.FnExactFewestDrops", spec := "fnExactFewestDrops", recurses := true, apart := false, narrowed := true }
def FnExactFewestDropsUptoSaid : Prop := fnExactFewestDropsUptoRow.holds Try.pinned (OpenSpec.upto fnExactFewestDropsSpec)

end Rows
end Go.Proofs.Ytpcebcgmbngabab
