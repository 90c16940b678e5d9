/-
  No cell of these rows narrows 'for every input' (looked for: loops, veiled, ifaces, maps, wideKeys, modest, calm, conditions, laid).
  DERIVED. THE GIVEN ROWS OF THIS SEAT. 12 by the template 'for every input the law returns true; each argument reads behind the call as it read before'; 0 by the template 'total and deterministic' (their statements: YtenkokkhdcjcaaaTotals.lean).
  GIVEN WITH THE SEED: the statements are not yours to turn. If you find one false, say at which input.
  Laid BY PROGRAM, IN A SANDBOX (cutbox-rows.mjs): the forced cells as the released guide's own fill.sh prints them over the translation 330ab3b828f35199… (all of the seat's roots in one cut). By AI agents, Wed Nov 11 2026. No macro, syntax, notation, axiom, sorry.
-/
import Derived.Test.YtenkokkhdcjcaaaChecked
import GoSem.Claim
import GoSem.ClaimJoined
import GoSem.ClaimMapViews
import Derived.JoinedTies
import Derived.KernelRfl
namespace Go.Proofs.Ytenkokkhdcjcaaa
/- THE CELL 'sum', in the pinned program and in every row, IS THE sha256 OF THE DUMP (.gsa) THAT YtenkokkhdcjcaaaProg.lean LOADS. Nothing in Lean hashes anything: it is a label: what it is worth is what the hold of that sum in a sandbox is worth. -/
noncomputable def Try.pinned : Pinned := { name := "ytenkokkhdcjcaaa", sum := "330ab3b828f351993665f3f2556023636a77d377de766e648fc7fe270ff59274", checked := Try.checked }
namespace Rows
def none {H : Type} : Left H := { results := [], args := [] }

/-- 'laws.FnExactAreChords': WHATEVER THE INPUT: true; the input reads as it did. -/
def fnExactAreChordsSpec : ChangeSpec := { name := "fnExactAreChords", fn := fun _ => fun
  | [d1, d2] => { results := [.lit (.bool true)], args := [d1, d2] }
  | _ => none }
def fnExactAreChordsRow : OpenClaim := { program := "ytenkokkhdcjcaaa", sum := "330ab3b828f351993665f3f2556023636a77d377de766e648fc7fe270ff59274", func := "loop.example/g01324/laws.FnExactAreChords", spec := "fnExactAreChords", plainKeys := false, apart := false }
def FnExactAreChordsSaid : Prop := fnExactAreChordsRow.holds Try.pinned (OpenSpec.ofChange fnExactAreChordsSpec)

/-- ITS FALSE NEIGHBOUR: 'it returns false'. Refute it at one input. -/
def fnExactAreChordsWrong : ChangeSpec := { name := "fnExactAreChords", fn := fun _ => fun
  | [d1, d2] => { results := [.lit (.bool false)], args := [d1, d2] }
  | _ => none }
def FnExactAreChordsWrongFalsely : Prop := fnExactAreChordsRow.holds Try.pinned (OpenSpec.ofChange fnExactAreChordsWrong)

/-- 'laws.FnExactCrossingPairs': WHATEVER THE INPUT: true; the input reads as it did. -/
def fnExactCrossingPairsSpec : ChangeSpec := { name := "fnExactCrossingPairs", fn := fun _ => fun
  | [d1, d2] => { results := [.lit (.bool true)], args := [d1, d2] }
  | _ => none }
def fnExactCrossingPairsRow : OpenClaim := { program := "ytenkokkhdcjcaaa", sum := "330ab3b828f351993665f3f2556023636a77d377de766e648fc7fe270ff59274", func := "loop.example/g01324/laws.FnExactCrossingPairs", spec := "fnExactCrossingPairs", plainKeys := false, apart := false }
def FnExactCrossingPairsSaid : Prop := fnExactCrossingPairsRow.holds Try.pinned (OpenSpec.ofChange fnExactCrossingPairsSpec)

/-- ITS FALSE NEIGHBOUR: 'it returns false'. Refute it at one input. -/
def fnExactCrossingPairsWrong : ChangeSpec := { name := "fnExactCrossingPairs", fn := fun _ => fun
  | [d1, d2] => { results := [.lit (.bool false)], args := [d1, d2] }
  | _ => none }
def FnExactCrossingPairsWrongFalsely : Prop := fnExactCrossingPairsRow.holds Try.pinned (OpenSpec.ofChange fnExactCrossingPairsWrong)

/-- 'laws.FnExactCountPairsCrossing': WHATEVER THE INPUT: true; the input reads as it did. -/
def fnExactCountPairsCrossingSpec : ChangeSpec := { name := "fnExactCountPairsCrossing", fn := fun _ => fun
  | [d1, d2] => { results := [.lit (.bool true)], args := [d1, d2] }
  | _ => none }
def fnExactCountPairsCrossingRow : OpenClaim := { program := "ytenkokkhdcjcaaa", sum := "330ab3b828f351993665f3f2556023636a77d377de766e648fc7fe270ff59274", func := "loop.example/g01324/laws.FnExactCountPairsCrossing", spec := "fnExactCountPairsCrossing", plainKeys := false, apart := false }
def FnExactCountPairsCrossingSaid : Prop := fnExactCountPairsCrossingRow.holds Try.pinned (OpenSpec.ofChange fnExactCountPairsCrossingSpec)

/-- ITS FALSE NEIGHBOUR: 'it returns false'. Refute it at one input. -/
def fnExactCountPairsCrossingWrong : ChangeSpec := { name := "fnExactCountPairsCrossing", fn := fun _ => fun
  | [d1, d2] => { results := [.lit (.bool false)], args := [d1, d2] }
  | _ => none }
def FnExactCountPairsCrossingWrongFalsely : Prop := fnExactCountPairsCrossingRow.holds Try.pinned (OpenSpec.ofChange fnExactCountPairsCrossingWrong)

/-- 'laws.FnExactIsPlane': WHATEVER THE INPUT: true; the input reads as it did. -/
def fnExactIsPlaneSpec : ChangeSpec := { name := "fnExactIsPlane", fn := fun _ => fun
  | [d1, d2] => { results := [.lit (.bool true)], args := [d1, d2] }
  | _ => none }
def fnExactIsPlaneRow : OpenClaim := { program := "ytenkokkhdcjcaaa", sum := "330ab3b828f351993665f3f2556023636a77d377de766e648fc7fe270ff59274", func := "loop.example/g01324/laws.FnExactIsPlane", spec := "fnExactIsPlane", plainKeys := false, apart := false }
def FnExactIsPlaneSaid : Prop := fnExactIsPlaneRow.holds Try.pinned (OpenSpec.ofChange fnExactIsPlaneSpec)

/-- ITS FALSE NEIGHBOUR: 'it returns false'. Refute it at one input. -/
def fnExactIsPlaneWrong : ChangeSpec := { name := "fnExactIsPlane", fn := fun _ => fun
  | [d1, d2] => { results := [.lit (.bool false)], args := [d1, d2] }
  | _ => none }
def FnExactIsPlaneWrongFalsely : Prop := fnExactIsPlaneRow.holds Try.pinned (OpenSpec.ofChange fnExactIsPlaneWrong)

/-- 'laws.FnExactMostCrossed': WHATEVER THE INPUT: true; the input reads as it did. -/
def fnExactMostCrossedSpec : ChangeSpec := { name := "fnExactMostCrossed", fn := fun _ => fun
  | [d1, d2] => { results := [.lit (.bool true)], args := [d1, d2] }
  | _ => none }
def fnExactMostCrossedRow : OpenClaim := { program := "ytenkokkhdcjcaaa", sum := "330ab3b828f351993665f3f2556023636a77d377de766e648fc7fe270ff59274", func := "loop.example/g01324/laws.FnExactMostCrossed", spec := "fnExactMostCrossed", plainKeys := false, apart := false }
def FnExactMostCrossedSaid : Prop := fnExactMostCrossedRow.holds Try.pinned (OpenSpec.ofChange fnExactMostCrossedSpec)

/-- ITS FALSE NEIGHBOUR: 'it returns false'. Refute it at one input. -/
def fnExactMostCrossedWrong : ChangeSpec := { name := "fnExactMostCrossed", fn := fun _ => fun
  | [d1, d2] => { results := [.lit (.bool false)], args := [d1, d2] }
  | _ => none }
def FnExactMostCrossedWrongFalsely : Prop := fnExactMostCrossedRow.holds Try.pinned (OpenSpec.ofChange fnExactMostCrossedWrong)

/-- 'laws.FnExactChordLengths': WHATEVER THE INPUT: true; the input reads as it did. -/
def fnExactChordLengthsSpec : ChangeSpec := { name := "fnExactChordLengths", fn := fun _ => fun
  | [d1, d2] => { results := [.lit (.bool true)], args := [d1, d2] }
  | _ => none }
def fnExactChordLengthsRow : OpenClaim := { program := "ytenkokkhdcjcaaa", sum := "330ab3b828f351993665f3f2556023636a77d377de766e648fc7fe270ff59274", func := "loop.example/g01324/laws.FnExactChordLengths", spec := "fnExactChordLengths", plainKeys := false, apart := false }
def FnExactChordLengthsSaid : Prop := fnExactChordLengthsRow.holds Try.pinned (OpenSpec.ofChange fnExactChordLengthsSpec)

/-- ITS FALSE NEIGHBOUR: 'it returns false'. Refute it at one input. -/
def fnExactChordLengthsWrong : ChangeSpec := { name := "fnExactChordLengths", fn := fun _ => fun
  | [d1, d2] => { results := [.lit (.bool false)], args := [d1, d2] }
  | _ => none }
def FnExactChordLengthsWrongFalsely : Prop := fnExactChordLengthsRow.holds Try.pinned (OpenSpec.ofChange fnExactChordLengthsWrong)

/-- 'laws.FnExactDropChord': WHATEVER THE INPUT: true; the input reads as it did. -/
def fnExactDropChordSpec : ChangeSpec := { name := "fnExactDropChord", fn := fun _ => fun
  | [d1, d2, d3] => { results := [.lit (.bool true)], args := [d1, d2, d3] }
  | _ => none }
def fnExactDropChordRow : OpenClaim := { program := "ytenkokkhdcjcaaa", sum := "330ab3b828f351993665f3f2556023636a77d377de766e648fc7fe270ff59274", func := "loop.example/g01324/laws.FnExactDropChord", spec := "fnExactDropChord", plainKeys := false, apart := false }
def FnExactDropChordSaid : Prop := fnExactDropChordRow.holds Try.pinned (OpenSpec.ofChange fnExactDropChordSpec)

/-- ITS FALSE NEIGHBOUR: 'it returns false'. Refute it at one input. -/
def fnExactDropChordWrong : ChangeSpec := { name := "fnExactDropChord", fn := fun _ => fun
  | [d1, d2, d3] => { results := [.lit (.bool false)], args := [d1, d2, d3] }
  | _ => none }
def FnExactDropChordWrongFalsely : Prop := fnExactDropChordRow.holds Try.pinned (OpenSpec.ofChange fnExactDropChordWrong)

/-- 'laws.FnExactAddChord': WHATEVER THE INPUT: true; the input reads as it did. -/
def fnExactAddChordSpec : ChangeSpec := { name := "fnExactAddChord", fn := fun _ => fun
  | [d1, d2, d3] => { results := [.lit (.bool true)], args := [d1, d2, d3] }
  | _ => none }
def fnExactAddChordRow : OpenClaim := { program := "ytenkokkhdcjcaaa", sum := "330ab3b828f351993665f3f2556023636a77d377de766e648fc7fe270ff59274", func := "loop.example/g01324/laws.FnExactAddChord", spec := "fnExactAddChord", unfollowed := true, recurses := true, plainKeys := false, apart := false }
def FnExactAddChordSaid : Prop := fnExactAddChordRow.holds Try.pinned (OpenSpec.ofChange fnExactAddChordSpec)

/-- ITS FALSE NEIGHBOUR: 'it returns false'. Refute it at one input. -/
def fnExactAddChordWrong : ChangeSpec := { name := "fnExactAddChord", fn := fun _ => fun
  | [d1, d2, d3] => { results := [.lit (.bool false)], args := [d1, d2, d3] }
  | _ => none }
def FnExactAddChordWrongFalsely : Prop := fnExactAddChordRow.holds Try.pinned (OpenSpec.ofChange fnExactAddChordWrong)

/-- 'laws.FnExactChordsOf': WHATEVER THE INPUT: true; the input reads as it did. -/
def fnExactChordsOfSpec : ChangeSpec := { name := "fnExactChordsOf", fn := fun _ => fun
  | [d] => { results := [.lit (.bool true)], args := [d] }
  | _ => none }
def fnExactChordsOfRow : OpenClaim := { program := "ytenkokkhdcjcaaa", sum := "330ab3b828f351993665f3f2556023636a77d377de766e648fc7fe270ff59274", func := "loop.example/g01324/laws.FnExactChordsOf", spec := "fnExactChordsOf", unfollowed := true, recurses := true, plainKeys := false, apart := false }
def FnExactChordsOfSaid : Prop := fnExactChordsOfRow.holds Try.pinned (OpenSpec.ofChange fnExactChordsOfSpec)

/-- ITS FALSE NEIGHBOUR: 'it returns false'. Refute it at one input. -/
def fnExactChordsOfWrong : ChangeSpec := { name := "fnExactChordsOf", fn := fun _ => fun
  | [d] => { results := [.lit (.bool false)], args := [d] }
  | _ => none }
def FnExactChordsOfWrongFalsely : Prop := fnExactChordsOfRow.holds Try.pinned (OpenSpec.ofChange fnExactChordsOfWrong)

/-- 'laws.FnExactTurnedStar': WHATEVER THE INPUT: true; the input reads as it did. -/
def fnExactTurnedStarSpec : ChangeSpec := { name := "fnExactTurnedStar", fn := fun _ => fun
  | [d1, d2] => { results := [.lit (.bool true)], args := [d1, d2] }
  | _ => none }
def fnExactTurnedStarRow : OpenClaim := { program := "ytenkokkhdcjcaaa", sum := "330ab3b828f351993665f3f2556023636a77d377de766e648fc7fe270ff59274", func := "loop.example/g01324/laws.FnExactTurnedStar", spec := "fnExactTurnedStar", unfollowed := true, recurses := true, plainKeys := false, apart := false }
def FnExactTurnedStarSaid : Prop := fnExactTurnedStarRow.holds Try.pinned (OpenSpec.ofChange fnExactTurnedStarSpec)

/-- ITS FALSE NEIGHBOUR: 'it returns false'. Refute it at one input. -/
def fnExactTurnedStarWrong : ChangeSpec := { name := "fnExactTurnedStar", fn := fun _ => fun
  | [d1, d2] => { results := [.lit (.bool false)], args := [d1, d2] }
  | _ => none }
def FnExactTurnedStarWrongFalsely : Prop := fnExactTurnedStarRow.holds Try.pinned (OpenSpec.ofChange fnExactTurnedStarWrong)

/-- 'laws.FnExactCrossingsOn': WHATEVER THE INPUT: true; the input reads as it did. -/
def fnExactCrossingsOnSpec : ChangeSpec := { name := "fnExactCrossingsOn", fn := fun _ => fun
  | [d1, d2] => { results := [.lit (.bool true)], args := [d1, d2] }
  | _ => none }
def fnExactCrossingsOnRow : OpenClaim := { program := "ytenkokkhdcjcaaa", sum := "330ab3b828f351993665f3f2556023636a77d377de766e648fc7fe270ff59274", func := "loop.example/g01324/laws.FnExactCrossingsOn", spec := "fnExactCrossingsOn", unfollowed := true, recurses := true, plainKeys := false, apart := false }
def FnExactCrossingsOnSaid : Prop := fnExactCrossingsOnRow.holds Try.pinned (OpenSpec.ofChange fnExactCrossingsOnSpec)

/-- ITS FALSE NEIGHBOUR: 'it returns false'. Refute it at one input. -/
def fnExactCrossingsOnWrong : ChangeSpec := { name := "fnExactCrossingsOn", fn := fun _ => fun
  | [d1, d2] => { results := [.lit (.bool false)], args := [d1, d2] }
  | _ => none }
def FnExactCrossingsOnWrongFalsely : Prop := fnExactCrossingsOnRow.holds Try.pinned (OpenSpec.ofChange fnExactCrossingsOnWrong)

/-- 'laws.FnExactCountCrossings': WHATEVER THE INPUT: true; the input reads as it did. -/
def fnExactCountCrossingsSpec : ChangeSpec := { name := "fnExactCountCrossings", fn := fun _ => fun
  | [d] => { results := [.lit (.bool true)], args := [d] }
  | _ => none }
def fnExactCountCrossingsRow : OpenClaim := { program := "ytenkokkhdcjcaaa", sum := "330ab3b828f351993665f3f2556023636a77d377de766e648fc7fe270ff59274", func := "loop.example/g01324/laws.FnExactCountCrossings", spec := "fnExactCountCrossings", unfollowed := true, recurses := true, plainKeys := false, apart := false }
def FnExactCountCrossingsSaid : Prop := fnExactCountCrossingsRow.holds Try.pinned (OpenSpec.ofChange fnExactCountCrossingsSpec)

/-- ITS FALSE NEIGHBOUR: 'it returns false'. Refute it at one input. -/
def fnExactCountCrossingsWrong : ChangeSpec := { name := "fnExactCountCrossings", fn := fun _ => fun
  | [d] => { results := [.lit (.bool false)], args := [d] }
  | _ => none }
def FnExactCountCrossingsWrongFalsely : Prop := fnExactCountCrossingsRow.holds Try.pinned (OpenSpec.ofChange fnExactCountCrossingsWrong)

/- THE SECOND FORM. 'bulk': how many values and letters a reading holds, each counted each time it is reached (what is shared counts as often as it is met; a slice's spare places count too). A statement '..UptoSaid' is the law's where the arguments, and the package variables that the reading takes, are together of bulk at most 1048576: NARROWER than '..Said'. Prove '..Said' where nothing that the law and all that it calls make is longer than what came in: it says more and counts as full. Else prove '..UptoSaid'. A law counts once. -/
mutual
def uptoBulk {H : Type} : DataW H → Nat
  | .lit (.string bytes) => bytes.length + 1
  | .lit _ => 1
  | .nil => 1
  | .ptr d => uptoBulk d + 1
  | .slice elems spare => uptoBulkAll elems + uptoBulkAll spare + 1
  | .agg parts => uptoBulkAll parts + 1
  | .iface _ d => uptoBulk d + 1
  | .map entries => uptoBulkEntries entries + 1
  | .held _ => 1
def uptoBulkAll {H : Type} : List (DataW H) → Nat
  | [] => 0
  | d :: r => uptoBulk d + uptoBulkAll r
def uptoBulkEntries {H : Type} : List (Lit × DataW H) → Nat
  | [] => 0
  | x :: r => uptoBulkEntry x + uptoBulkEntries r
def uptoBulkEntry {H : Type} : Lit × DataW H → Nat
  | (.string bytes, d) => bytes.length + uptoBulk d + 1
  | (_, d) => uptoBulk d + 1
 end
def uptoSmall : (H : Type) → List (DataW H) → Bool := fun _ ds => decide (uptoBulkAll ds ≤ 1048576)
def OpenSpec.upto (s : _root_.Go.ChangeSpec) : _root_.Go.OpenSpec := { _root_.Go.OpenSpec.ofChange s with cond := some uptoSmall }

/-- 'laws.FnExactAreChords', WHERE WHAT IT READS IS OF BULK AT MOST 1048576: true; the input reads as it did. -/
def fnExactAreChordsUptoRow : OpenClaim := { program := "ytenkokkhdcjcaaa", sum := "330ab3b828f351993665f3f2556023636a77d377de766e648fc7fe270ff59274", func := "loop.example/g01324/laws.FnExactAreChords", spec := "fnExactAreChords", plainKeys := false, apart := false, narrowed := true }
def FnExactAreChordsUptoSaid : Prop := fnExactAreChordsUptoRow.holds Try.pinned (OpenSpec.upto fnExactAreChordsSpec)

/-- 'laws.FnExactCrossingPairs', WHERE WHAT IT READS IS OF BULK AT MOST 1048576: true; the input reads as it did. -/
def fnExactCrossingPairsUptoRow : OpenClaim := { program := "ytenkokkhdcjcaaa", sum := "330ab3b828f351993665f3f2556023636a77d377de766e648fc7fe270ff59274", func := "loop.example/g01324/laws.FnExactCrossingPairs", spec := "fnExactCrossingPairs", plainKeys := false, apart := false, narrowed := true }
def FnExactCrossingPairsUptoSaid : Prop := fnExactCrossingPairsUptoRow.holds Try.pinned (OpenSpec.upto fnExactCrossingPairsSpec)

/-- 'laws.FnExactCountPairsCrossing', WHERE WHAT IT READS IS OF BULK AT MOST 1048576: true; the input reads as it did. -/
def fnExactCountPairsCrossingUptoRow : OpenClaim := { program := "ytenkokkhdcjcaaa", sum := "330ab3b828f351993665f3f2556023636a77d377de766e648fc7fe270ff59274", func := "loop.example/g01324/laws.FnExactCountPairsCrossing", spec := "fnExactCountPairsCrossing", plainKeys := false, apart := false, narrowed := true }
def FnExactCountPairsCrossingUptoSaid : Prop := fnExactCountPairsCrossingUptoRow.holds Try.pinned (OpenSpec.upto fnExactCountPairsCrossingSpec)

/-- 'laws.FnExactIsPlane', WHERE WHAT IT READS IS OF BULK AT MOST 1048576: true; the input reads as it did. -/
def fnExactIsPlaneUptoRow : OpenClaim := { program := "ytenkokkhdcjcaaa", sum := "330ab3b828f351993665f3f2556023636a77d377de766e648fc7fe270ff59274", func := "loop.example/g01324/laws.FnExactIsPlane", spec := "fnExactIsPlane", plainKeys := false, apart := false, narrowed := true }
def FnExactIsPlaneUptoSaid : Prop := fnExactIsPlaneUptoRow.holds Try.pinned (OpenSpec.upto fnExactIsPlaneSpec)

/-- 'laws.FnExactMostCrossed', WHERE WHAT IT READS IS OF BULK AT MOST 1048576: true; the input reads as it did. -/
def fnExactMostCrossedUptoRow : OpenClaim := { program := "ytenkokkhdcjcaaa", sum := "330ab3b828f351993665f3f2556023636a77d377de766e648fc7fe270ff59274", func := "loop.example/g01324/laws.FnExactMostCrossed", spec := "fnExactMostCrossed", plainKeys := false, apart := false, narrowed := true }
def FnExactMostCrossedUptoSaid : Prop := fnExactMostCrossedUptoRow.holds Try.pinned (OpenSpec.upto fnExactMostCrossedSpec)

/-- 'laws.FnExactChordLengths', WHERE WHAT IT READS IS OF BULK AT MOST 1048576: true; the input reads as it did. -/
def fnExactChordLengthsUptoRow : OpenClaim := { program := "ytenkokkhdcjcaaa", sum := "330ab3b828f351993665f3f2556023636a77d377de766e648fc7fe270ff59274", func := "loop.example/g01324/laws.FnExactChordLengths", spec := "fnExactChordLengths", plainKeys := false, apart := false, narrowed := true }
def FnExactChordLengthsUptoSaid : Prop := fnExactChordLengthsUptoRow.holds Try.pinned (OpenSpec.upto fnExactChordLengthsSpec)

/-- 'laws.FnExactDropChord', WHERE WHAT IT READS IS OF BULK AT MOST 1048576: true; the input reads as it did. -/
def fnExactDropChordUptoRow : OpenClaim := { program := "ytenkokkhdcjcaaa", sum := "330ab3b828f351993665f3f2556023636a77d377de766e648fc7fe270ff59274", func := "loop.example/g01324/laws.FnExactDropChord", spec := "fnExactDropChord", plainKeys := false, apart := false, narrowed := true }
def FnExactDropChordUptoSaid : Prop := fnExactDropChordUptoRow.holds Try.pinned (OpenSpec.upto fnExactDropChordSpec)

/-- 'laws.FnExactAddChord', WHERE WHAT IT READS IS OF BULK AT MOST 1048576: true; the input reads as it did. -/
def fnExactAddChordUptoRow : OpenClaim := { program := "ytenkokkhdcjcaaa", sum := "330ab3b828f351993665f3f2556023636a77d377de766e648fc7fe270ff59274", func := "loop.example/g01324/laws.FnExactAddChord", spec := "fnExactAddChord", unfollowed := true, recurses := true, plainKeys := false, apart := false, narrowed := true }
def FnExactAddChordUptoSaid : Prop := fnExactAddChordUptoRow.holds Try.pinned (OpenSpec.upto fnExactAddChordSpec)

/-- 'laws.FnExactChordsOf', WHERE WHAT IT READS IS OF BULK AT MOST 1048576: true; the input reads as it did. -/
def fnExactChordsOfUptoRow : OpenClaim := { program := "ytenkokkhdcjcaaa", sum := "330ab3b828f351993665f3f2556023636a77d377de766e648fc7fe270ff59274", func := "loop.example/g01324/laws.FnExactChordsOf", spec := "fnExactChordsOf", unfollowed := true, recurses := true, plainKeys := false, apart := false, narrowed := true }
def FnExactChordsOfUptoSaid : Prop := fnExactChordsOfUptoRow.holds Try.pinned (OpenSpec.upto fnExactChordsOfSpec)

/-- 'laws.FnExactTurnedStar', WHERE WHAT IT READS IS OF BULK AT MOST 1048576: true; the input reads as it did. -/
def fnExactTurnedStarUptoRow : OpenClaim := { program := "ytenkokkhdcjcaaa", sum := "330ab3b828f351993665f3f2556023636a77d377de766e648fc7fe270ff59274", func := "loop.example/g01324/laws.FnExactTurnedStar", spec := "fnExactTurnedStar", unfollowed := true, recurses := true, plainKeys := false, apart := false, narrowed := true }
def FnExactTurnedStarUptoSaid : Prop := fnExactTurnedStarUptoRow.holds Try.pinned (OpenSpec.upto fnExactTurnedStarSpec)

/-- 'laws.FnExactCrossingsOn', WHERE WHAT IT READS IS OF BULK AT MOST 1048576: true; the input reads as it did. -/
def fnExactCrossingsOnUptoRow : OpenClaim := { program := "ytenkokkhdcjcaaa", sum := "330ab3b828f351993665f3f2556023636a77d377de766e648fc7fe270ff59274", func := "loop.example/g01324/laws.FnExactCrossingsOn", spec := "fnExactCrossingsOn", unfollowed := true, recurses := true, plainKeys := false, apart := false, narrowed := true }
def FnExactCrossingsOnUptoSaid : Prop := fnExactCrossingsOnUptoRow.holds Try.pinned (OpenSpec.upto fnExactCrossingsOnSpec)

/-- 'laws.FnExactCountCrossings', WHERE WHAT IT READS IS OF BULK AT MOST 1048576: true; the input reads as it did. -/
def fnExactCountCrossingsUptoRow : OpenClaim := { program := "ytenkokkhdcjcaaa", sum := "330ab3b828f351993665f3f2556023636a77d377de766e648fc7fe270ff59274", func := "loop.example/g01324/laws.FnExactCountCrossings", spec := "fnExactCountCrossings", unfollowed := true, recurses := true, plainKeys := false, apart := false, narrowed := true }
def FnExactCountCrossingsUptoSaid : Prop := fnExactCountCrossingsUptoRow.holds Try.pinned (OpenSpec.upto fnExactCountCrossingsSpec)

end Rows
end Go.Proofs.Ytenkokkhdcjcaaa
