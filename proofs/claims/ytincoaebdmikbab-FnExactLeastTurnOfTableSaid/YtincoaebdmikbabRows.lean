/-
  No cell of these rows narrows 'for every input' (looked for: loops, veiled, ifaces, maps, wideKeys, modest, calm, conditions, laid).
  DERIVED. THE GIVEN ROWS OF THIS SEAT. 6 by the template 'for every input the law returns true; each argument reads behind the call as it read before'; 0 by the template 'total and deterministic' (their statements: YtincoaebdmikbabTotals.lean).
  GIVEN WITH THE SEED: the statements are not yours to turn. If you find one false, say at which input.
  Laid BY PROGRAM, IN A SANDBOX (cutbox-rows.mjs): the forced cells as the released guide's own fill.sh prints them over the translation e0cebd1fb990a44d… (all of the seat's roots in one cut). By AI agents, Wed Nov 11 2026. No macro, syntax, notation, axiom, sorry.
-/
import Derived.Test.YtincoaebdmikbabChecked
import GoSem.Claim
import GoSem.ClaimJoined
import GoSem.ClaimMapViews
import Derived.JoinedTies
import Derived.KernelRfl
namespace Go.Proofs.Ytincoaebdmikbab
/- THE CELL 'sum', in the pinned program and in every row, IS THE sha256 OF THE DUMP (.gsa) THAT YtincoaebdmikbabProg.lean LOADS. Nothing in Lean hashes anything: it is a label: what it is worth is what the hold of that sum in a sandbox is worth. -/
noncomputable def Try.pinned : Pinned := { name := "ytincoaebdmikbab", sum := "e0cebd1fb990a44dd399feafd4691bf8fdc873e4bedc167550ba716bb2ac27ec", checked := Try.checked }
namespace Rows
def none {H : Type} : Left H := { results := [], args := [] }

/-- 'laws.FnExactDepthOfTable': WHATEVER THE INPUT: true; the input reads as it did. -/
def fnExactDepthOfTableSpec : ChangeSpec := { name := "fnExactDepthOfTable", fn := fun _ => fun
  | [d1, d2] => { results := [.lit (.bool true)], args := [d1, d2] }
  | _ => none }
def fnExactDepthOfTableRow : OpenClaim := { program := "ytincoaebdmikbab", sum := "e0cebd1fb990a44dd399feafd4691bf8fdc873e4bedc167550ba716bb2ac27ec", func := "loop.example/g01324/laws.FnExactDepthOfTable", spec := "fnExactDepthOfTable", plainKeys := false, apart := false }
def FnExactDepthOfTableSaid : Prop := fnExactDepthOfTableRow.holds Try.pinned (OpenSpec.ofChange fnExactDepthOfTableSpec)

/-- ITS FALSE NEIGHBOUR: 'it returns false'. Refute it at one input. -/
def fnExactDepthOfTableWrong : ChangeSpec := { name := "fnExactDepthOfTable", fn := fun _ => fun
  | [d1, d2] => { results := [.lit (.bool false)], args := [d1, d2] }
  | _ => none }
def FnExactDepthOfTableWrongFalsely : Prop := fnExactDepthOfTableRow.holds Try.pinned (OpenSpec.ofChange fnExactDepthOfTableWrong)

/-- 'laws.FnExactCyclesOfTable': WHATEVER THE INPUT: true; the input reads as it did. -/
def fnExactCyclesOfTableSpec : ChangeSpec := { name := "fnExactCyclesOfTable", fn := fun _ => fun
  | [d1, d2] => { results := [.lit (.bool true)], args := [d1, d2] }
  | _ => none }
def fnExactCyclesOfTableRow : OpenClaim := { program := "ytincoaebdmikbab", sum := "e0cebd1fb990a44dd399feafd4691bf8fdc873e4bedc167550ba716bb2ac27ec", func := "loop.example/g01324/laws.FnExactCyclesOfTable", spec := "fnExactCyclesOfTable", plainKeys := false, apart := false }
def FnExactCyclesOfTableSaid : Prop := fnExactCyclesOfTableRow.holds Try.pinned (OpenSpec.ofChange fnExactCyclesOfTableSpec)

/-- ITS FALSE NEIGHBOUR: 'it returns false'. Refute it at one input. -/
def fnExactCyclesOfTableWrong : ChangeSpec := { name := "fnExactCyclesOfTable", fn := fun _ => fun
  | [d1, d2] => { results := [.lit (.bool false)], args := [d1, d2] }
  | _ => none }
def FnExactCyclesOfTableWrongFalsely : Prop := fnExactCyclesOfTableRow.holds Try.pinned (OpenSpec.ofChange fnExactCyclesOfTableWrong)

/-- 'laws.FnExactTimesChords': WHATEVER THE INPUT: true; the input reads as it did. -/
def fnExactTimesChordsSpec : ChangeSpec := { name := "fnExactTimesChords", fn := fun _ => fun
  | [d1, d2] => { results := [.lit (.bool true)], args := [d1, d2] }
  | _ => none }
def fnExactTimesChordsRow : OpenClaim := { program := "ytincoaebdmikbab", sum := "e0cebd1fb990a44dd399feafd4691bf8fdc873e4bedc167550ba716bb2ac27ec", func := "loop.example/g01324/laws.FnExactTimesChords", spec := "fnExactTimesChords", unfollowed := true, recurses := true, plainKeys := false, apart := false }
def FnExactTimesChordsSaid : Prop := fnExactTimesChordsRow.holds Try.pinned (OpenSpec.ofChange fnExactTimesChordsSpec)

/-- ITS FALSE NEIGHBOUR: 'it returns false'. Refute it at one input. -/
def fnExactTimesChordsWrong : ChangeSpec := { name := "fnExactTimesChords", fn := fun _ => fun
  | [d1, d2] => { results := [.lit (.bool false)], args := [d1, d2] }
  | _ => none }
def FnExactTimesChordsWrongFalsely : Prop := fnExactTimesChordsRow.holds Try.pinned (OpenSpec.ofChange fnExactTimesChordsWrong)

/-- 'laws.FnExactLeastTurnOfTable': WHATEVER THE INPUT: true; the input reads as it did. -/
def fnExactLeastTurnOfTableSpec : ChangeSpec := { name := "fnExactLeastTurnOfTable", fn := fun _ => fun
  | [d1, d2] => { results := [.lit (.bool true)], args := [d1, d2] }
  | _ => none }
def fnExactLeastTurnOfTableRow : OpenClaim := { program := "ytincoaebdmikbab", sum := "e0cebd1fb990a44dd399feafd4691bf8fdc873e4bedc167550ba716bb2ac27ec", func := "loop.example/g01324/laws.FnExactLeastTurnOfTable", spec := "fnExactLeastTurnOfTable", unfollowed := true, recurses := true, plainKeys := false, apart := false }
def FnExactLeastTurnOfTableSaid : Prop := fnExactLeastTurnOfTableRow.holds Try.pinned (OpenSpec.ofChange fnExactLeastTurnOfTableSpec)

/-- ITS FALSE NEIGHBOUR: 'it returns false'. Refute it at one input. -/
def fnExactLeastTurnOfTableWrong : ChangeSpec := { name := "fnExactLeastTurnOfTable", fn := fun _ => fun
  | [d1, d2] => { results := [.lit (.bool false)], args := [d1, d2] }
  | _ => none }
def FnExactLeastTurnOfTableWrongFalsely : Prop := fnExactLeastTurnOfTableRow.holds Try.pinned (OpenSpec.ofChange fnExactLeastTurnOfTableWrong)

/-- 'laws.FnExactTableCrossings': WHATEVER THE INPUT: true; the input reads as it did. -/
def fnExactTableCrossingsSpec : ChangeSpec := { name := "fnExactTableCrossings", fn := fun _ => fun
  | [d1, d2] => { results := [.lit (.bool true)], args := [d1, d2] }
  | _ => none }
def fnExactTableCrossingsRow : OpenClaim := { program := "ytincoaebdmikbab", sum := "e0cebd1fb990a44dd399feafd4691bf8fdc873e4bedc167550ba716bb2ac27ec", func := "loop.example/g01324/laws.FnExactTableCrossings", spec := "fnExactTableCrossings", unfollowed := true, recurses := true, plainKeys := false, apart := false }
def FnExactTableCrossingsSaid : Prop := fnExactTableCrossingsRow.holds Try.pinned (OpenSpec.ofChange fnExactTableCrossingsSpec)

/-- ITS FALSE NEIGHBOUR: 'it returns false'. Refute it at one input. -/
def fnExactTableCrossingsWrong : ChangeSpec := { name := "fnExactTableCrossings", fn := fun _ => fun
  | [d1, d2] => { results := [.lit (.bool false)], args := [d1, d2] }
  | _ => none }
def FnExactTableCrossingsWrongFalsely : Prop := fnExactTableCrossingsRow.holds Try.pinned (OpenSpec.ofChange fnExactTableCrossingsWrong)

/-- 'laws.FnExactTurnChords': WHATEVER THE INPUT: true; the input reads as it did. -/
def fnExactTurnChordsSpec : ChangeSpec := { name := "fnExactTurnChords", fn := fun _ => fun
  | [d1, d2, d3] => { results := [.lit (.bool true)], args := [d1, d2, d3] }
  | _ => none }
def fnExactTurnChordsRow : OpenClaim := { program := "ytincoaebdmikbab", sum := "e0cebd1fb990a44dd399feafd4691bf8fdc873e4bedc167550ba716bb2ac27ec", func := "loop.example/g01324/laws.FnExactTurnChords", spec := "fnExactTurnChords", unfollowed := true, recurses := true, plainKeys := false, apart := false }
def FnExactTurnChordsSaid : Prop := fnExactTurnChordsRow.holds Try.pinned (OpenSpec.ofChange fnExactTurnChordsSpec)

/-- ITS FALSE NEIGHBOUR: 'it returns false'. Refute it at one input. -/
def fnExactTurnChordsWrong : ChangeSpec := { name := "fnExactTurnChords", fn := fun _ => fun
  | [d1, d2, d3] => { results := [.lit (.bool false)], args := [d1, d2, d3] }
  | _ => none }
def FnExactTurnChordsWrongFalsely : Prop := fnExactTurnChordsRow.holds Try.pinned (OpenSpec.ofChange fnExactTurnChordsWrong)

/- THE SECOND FORM. 'bulk': how many values and letters a reading holds, each counted each time it is reached (what is shared counts as often as it is met; a slice's spare places count too). A statement '..UptoSaid' is the law's where the arguments, and the package variables that the reading takes, are together of bulk at most 1048576: NARROWER than '..Said'. Prove '..Said' where nothing that the law and all that it calls make is longer than what came in: it says more and counts as full. Else prove '..UptoSaid'. A law counts once. -/
mutual
def uptoBulk {H : Type} : DataW H → Nat
  | .lit (.string bytes) => bytes.length + 1
  | .lit _ => 1
  | .nil => 1
  | .ptr d => uptoBulk d + 1
  | .slice elems spare => uptoBulkAll elems + uptoBulkAll spare + 1
  | .agg parts => uptoBulkAll parts + 1
  | .iface _ d => uptoBulk d + 1
  | .map entries => uptoBulkEntries entries + 1
  | .held _ => 1
def uptoBulkAll {H : Type} : List (DataW H) → Nat
  | [] => 0
  | d :: r => uptoBulk d + uptoBulkAll r
def uptoBulkEntries {H : Type} : List (Lit × DataW H) → Nat
  | [] => 0
  | x :: r => uptoBulkEntry x + uptoBulkEntries r
def uptoBulkEntry {H : Type} : Lit × DataW H → Nat
  | (.string bytes, d) => bytes.length + uptoBulk d + 1
  | (_, d) => uptoBulk d + 1
 end
def uptoSmall : (H : Type) → List (DataW H) → Bool := fun _ ds => decide (uptoBulkAll ds ≤ 1048576)
def OpenSpec.upto (s : _root_.Go.ChangeSpec) : _root_.Go.OpenSpec := { _root_.Go.OpenSpec.ofChange s with cond := some uptoSmall }

/-- 'laws.FnExactDepthOfTable', WHERE WHAT IT READS IS OF BULK AT MOST 1048576: true; the input reads as it did. -/
def fnExactDepthOfTableUptoRow : OpenClaim := { program := "ytincoaebdmikbab", sum := "e0cebd1fb990a44dd399feafd4691bf8fdc873e4bedc167550ba716bb2ac27ec", func := "loop.example/g01324/laws.FnExactDepthOfTable", spec := "fnExactDepthOfTable", plainKeys := false, apart := false, narrowed := true }
def FnExactDepthOfTableUptoSaid : Prop := fnExactDepthOfTableUptoRow.holds Try.pinned (OpenSpec.upto fnExactDepthOfTableSpec)

/-- 'laws.FnExactCyclesOfTable', WHERE WHAT IT READS IS OF BULK AT MOST 1048576: true; the input reads as it did. -/
def fnExactCyclesOfTableUptoRow : OpenClaim := { program := "ytincoaebdmikbab", sum := "e0cebd1fb990a44dd399feafd4691bf8fdc873e4bedc167550ba716bb2ac27ec", func := "loop.example/g01324/laws.FnExactCyclesOfTable", spec := "fnExactCyclesOfTable", plainKeys := false, apart := false, narrowed := true }
def FnExactCyclesOfTableUptoSaid : Prop := fnExactCyclesOfTableUptoRow.holds Try.pinned (OpenSpec.upto fnExactCyclesOfTableSpec)

/-- 'laws.FnExactTimesChords', WHERE WHAT IT READS IS OF BULK AT MOST 1048576: true; the input reads as it did. -/
def fnExactTimesChordsUptoRow : OpenClaim := { program := "ytincoaebdmikbab", sum := "e0cebd1fb990a44dd399feafd4691bf8fdc873e4bedc167550ba716bb2ac27ec", func := "loop.example/g01324/laws.FnExactTimesChords", spec := "fnExactTimesChords", unfollowed := true, recurses := true, plainKeys := false, apart := false, narrowed := true }
def FnExactTimesChordsUptoSaid : Prop := fnExactTimesChordsUptoRow.holds Try.pinned (OpenSpec.upto fnExactTimesChordsSpec)

/-- 'laws.FnExactLeastTurnOfTable', WHERE WHAT IT READS IS OF BULK AT MOST 1048576: true; the input reads as it did. -/
def fnExactLeastTurnOfTableUptoRow : OpenClaim := { program := "ytincoaebdmikbab", sum := "e0cebd1fb990a44dd399feafd4691bf8fdc873e4bedc167550ba716bb2ac27ec", func := "loop.example/g01324/laws.FnExactLeastTurnOfTable", spec := "fnExactLeastTurnOfTable", unfollowed := true, recurses := true, plainKeys := false, apart := false, narrowed := true }
def FnExactLeastTurnOfTableUptoSaid : Prop := fnExactLeastTurnOfTableUptoRow.holds Try.pinned (OpenSpec.upto fnExactLeastTurnOfTableSpec)

/-- 'laws.FnExactTableCrossings', WHERE WHAT IT READS IS OF BULK AT MOST 1048576: true; the input reads as it did. -/
def fnExactTableCrossingsUptoRow : OpenClaim := { program := "ytincoaebdmikbab", sum := "e0cebd1fb990a44dd399feafd4691bf8fdc873e4bedc167550ba716bb2ac27ec", func := "loop.example/g01324/laws.FnExactTableCrossings", spec := "fnExactTableCrossings", unfollowed := true, recurses := true, plainKeys := false, apart := false, narrowed := true }
def FnExactTableCrossingsUptoSaid : Prop := fnExactTableCrossingsUptoRow.holds Try.pinned (OpenSpec.upto fnExactTableCrossingsSpec)

/-- 'laws.FnExactTurnChords', WHERE WHAT IT READS IS OF BULK AT MOST 1048576: true; the input reads as it did. -/
def fnExactTurnChordsUptoRow : OpenClaim := { program := "ytincoaebdmikbab", sum := "e0cebd1fb990a44dd399feafd4691bf8fdc873e4bedc167550ba716bb2ac27ec", func := "loop.example/g01324/laws.FnExactTurnChords", spec := "fnExactTurnChords", unfollowed := true, recurses := true, plainKeys := false, apart := false, narrowed := true }
def FnExactTurnChordsUptoSaid : Prop := fnExactTurnChordsUptoRow.holds Try.pinned (OpenSpec.upto fnExactTurnChordsSpec)

end Rows
end Go.Proofs.Ytincoaebdmikbab
