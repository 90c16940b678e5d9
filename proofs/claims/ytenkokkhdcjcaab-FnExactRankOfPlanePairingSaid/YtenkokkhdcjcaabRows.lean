/-
  No cell of these rows narrows 'for every input' (looked for: loops, veiled, ifaces, maps, wideKeys, modest, calm, conditions, laid).
  DERIVED. THE GIVEN ROWS OF THIS SEAT. 10 by the template 'for every input the law returns true; each argument reads behind the call as it read before'; 0 by the template 'total and deterministic' (their statements: YtenkokkhdcjcaabTotals.lean).
  GIVEN WITH THE SEED: the statements are not yours to turn. If you find one false, say at which input.
  Laid BY PROGRAM, IN A SANDBOX (cutbox-rows.mjs): the forced cells as the released guide's own fill.sh prints them over the translation 04227fd8b85a5c16… (all of the seat's roots in one cut). By AI agents, Wed Nov 11 2026. No macro, syntax, notation, axiom, sorry.
-/
import Derived.Test.YtenkokkhdcjcaabChecked
import GoSem.Claim
import GoSem.ClaimJoined
import GoSem.ClaimMapViews
import Derived.JoinedTies
import Derived.KernelRfl
namespace Go.Proofs.Ytenkokkhdcjcaab
/- THE CELL 'sum', in the pinned program and in every row, IS THE sha256 OF THE DUMP (.gsa) THAT YtenkokkhdcjcaabProg.lean LOADS. Nothing in Lean hashes anything: it is a label: what it is worth is what the hold of that sum in a sandbox is worth. -/
noncomputable def Try.pinned : Pinned := { name := "ytenkokkhdcjcaab", sum := "04227fd8b85a5c1609d05b4421e5539f80fc3a8026f62b416464a8b80197294d", checked := Try.checked }
namespace Rows
def none {H : Type} : Left H := { results := [], args := [] }

/-- 'laws.FnExactCountPlanePairings': WHATEVER THE INPUT: true; the input reads as it did. -/
def fnExactCountPlanePairingsSpec : ChangeSpec := { name := "fnExactCountPlanePairings", fn := fun _ => fun
  | [d] => { results := [.lit (.bool true)], args := [d] }
  | _ => none }
def fnExactCountPlanePairingsRow : OpenClaim := { program := "ytenkokkhdcjcaab", sum := "04227fd8b85a5c1609d05b4421e5539f80fc3a8026f62b416464a8b80197294d", func := "loop.example/g01324/laws.FnExactCountPlanePairings", spec := "fnExactCountPlanePairings", apart := false }
def FnExactCountPlanePairingsSaid : Prop := fnExactCountPlanePairingsRow.holds Try.pinned (OpenSpec.ofChange fnExactCountPlanePairingsSpec)

/-- ITS FALSE NEIGHBOUR: 'it returns false'. Refute it at one input. -/
def fnExactCountPlanePairingsWrong : ChangeSpec := { name := "fnExactCountPlanePairings", fn := fun _ => fun
  | [d] => { results := [.lit (.bool false)], args := [d] }
  | _ => none }
def FnExactCountPlanePairingsWrongFalsely : Prop := fnExactCountPlanePairingsRow.holds Try.pinned (OpenSpec.ofChange fnExactCountPlanePairingsWrong)

/-- 'laws.FnExactCountPairings': WHATEVER THE INPUT: true; the input reads as it did. -/
def fnExactCountPairingsSpec : ChangeSpec := { name := "fnExactCountPairings", fn := fun _ => fun
  | [d1, d2] => { results := [.lit (.bool true)], args := [d1, d2] }
  | _ => none }
def fnExactCountPairingsRow : OpenClaim := { program := "ytenkokkhdcjcaab", sum := "04227fd8b85a5c1609d05b4421e5539f80fc3a8026f62b416464a8b80197294d", func := "loop.example/g01324/laws.FnExactCountPairings", spec := "fnExactCountPairings", recurses := true, apart := false }
def FnExactCountPairingsSaid : Prop := fnExactCountPairingsRow.holds Try.pinned (OpenSpec.ofChange fnExactCountPairingsSpec)

/-- ITS FALSE NEIGHBOUR: 'it returns false'. Refute it at one input. -/
def fnExactCountPairingsWrong : ChangeSpec := { name := "fnExactCountPairings", fn := fun _ => fun
  | [d1, d2] => { results := [.lit (.bool false)], args := [d1, d2] }
  | _ => none }
def FnExactCountPairingsWrongFalsely : Prop := fnExactCountPairingsRow.holds Try.pinned (OpenSpec.ofChange fnExactCountPairingsWrong)

/-- 'laws.FnExactIsPairing': WHATEVER THE INPUT: true; the input reads as it did. -/
def fnExactIsPairingSpec : ChangeSpec := { name := "fnExactIsPairing", fn := fun _ => fun
  | [d1, d2] => { results := [.lit (.bool true)], args := [d1, d2] }
  | _ => none }
def fnExactIsPairingRow : OpenClaim := { program := "ytenkokkhdcjcaab", sum := "04227fd8b85a5c1609d05b4421e5539f80fc3a8026f62b416464a8b80197294d", func := "loop.example/g01324/laws.FnExactIsPairing", spec := "fnExactIsPairing", apart := false }
def FnExactIsPairingSaid : Prop := fnExactIsPairingRow.holds Try.pinned (OpenSpec.ofChange fnExactIsPairingSpec)

/-- ITS FALSE NEIGHBOUR: 'it returns false'. Refute it at one input. -/
def fnExactIsPairingWrong : ChangeSpec := { name := "fnExactIsPairing", fn := fun _ => fun
  | [d1, d2] => { results := [.lit (.bool false)], args := [d1, d2] }
  | _ => none }
def FnExactIsPairingWrongFalsely : Prop := fnExactIsPairingRow.holds Try.pinned (OpenSpec.ofChange fnExactIsPairingWrong)

/-- 'laws.FnExactPlanePairingOfRank': WHATEVER THE INPUT: true; the input reads as it did. -/
def fnExactPlanePairingOfRankSpec : ChangeSpec := { name := "fnExactPlanePairingOfRank", fn := fun _ => fun
  | [d1, d2] => { results := [.lit (.bool true)], args := [d1, d2] }
  | _ => none }
def fnExactPlanePairingOfRankRow : OpenClaim := { program := "ytenkokkhdcjcaab", sum := "04227fd8b85a5c1609d05b4421e5539f80fc3a8026f62b416464a8b80197294d", func := "loop.example/g01324/laws.FnExactPlanePairingOfRank", spec := "fnExactPlanePairingOfRank", recurses := true, apart := false }
def FnExactPlanePairingOfRankSaid : Prop := fnExactPlanePairingOfRankRow.holds Try.pinned (OpenSpec.ofChange fnExactPlanePairingOfRankSpec)

/-- ITS FALSE NEIGHBOUR: 'it returns false'. Refute it at one input. -/
def fnExactPlanePairingOfRankWrong : ChangeSpec := { name := "fnExactPlanePairingOfRank", fn := fun _ => fun
  | [d1, d2] => { results := [.lit (.bool false)], args := [d1, d2] }
  | _ => none }
def FnExactPlanePairingOfRankWrongFalsely : Prop := fnExactPlanePairingOfRankRow.holds Try.pinned (OpenSpec.ofChange fnExactPlanePairingOfRankWrong)

/-- 'laws.FnExactRankOfPlanePairing': WHATEVER THE INPUT: true; the input reads as it did. -/
def fnExactRankOfPlanePairingSpec : ChangeSpec := { name := "fnExactRankOfPlanePairing", fn := fun _ => fun
  | [d1, d2] => { results := [.lit (.bool true)], args := [d1, d2] }
  | _ => none }
def fnExactRankOfPlanePairingRow : OpenClaim := { program := "ytenkokkhdcjcaab", sum := "04227fd8b85a5c1609d05b4421e5539f80fc3a8026f62b416464a8b80197294d", func := "loop.example/g01324/laws.FnExactRankOfPlanePairing", spec := "fnExactRankOfPlanePairing", recurses := true, apart := false }
def FnExactRankOfPlanePairingSaid : Prop := fnExactRankOfPlanePairingRow.holds Try.pinned (OpenSpec.ofChange fnExactRankOfPlanePairingSpec)

/-- ITS FALSE NEIGHBOUR: 'it returns false'. Refute it at one input. -/
def fnExactRankOfPlanePairingWrong : ChangeSpec := { name := "fnExactRankOfPlanePairing", fn := fun _ => fun
  | [d1, d2] => { results := [.lit (.bool false)], args := [d1, d2] }
  | _ => none }
def FnExactRankOfPlanePairingWrongFalsely : Prop := fnExactRankOfPlanePairingRow.holds Try.pinned (OpenSpec.ofChange fnExactRankOfPlanePairingWrong)

/-- 'laws.FnExactFewestDrops': WHATEVER THE INPUT: true; the input reads as it did. -/
def fnExactFewestDropsSpec : ChangeSpec := { name := "fnExactFewestDrops", fn := fun _ => fun
  | [d1, d2] => { results := [.lit (.bool true)], args := [d1, d2] }
  | _ => none }
def fnExactFewestDropsRow : OpenClaim := { program := "ytenkokkhdcjcaab", sum := "04227fd8b85a5c1609d05b4421e5539f80fc3a8026f62b416464a8b80197294d", func := "loop.example/g01324/laws.FnExactFewestDrops", spec := "fnExactFewestDrops", recurses := true, apart := false }
def FnExactFewestDropsSaid : Prop := fnExactFewestDropsRow.holds Try.pinned (OpenSpec.ofChange fnExactFewestDropsSpec)

/-- ITS FALSE NEIGHBOUR: 'it returns false'. Refute it at one input. -/
def fnExactFewestDropsWrong : ChangeSpec := { name := "fnExactFewestDrops", fn := fun _ => fun
  | [d1, d2] => { results := [.lit (.bool false)], args := [d1, d2] }
  | _ => none }
def FnExactFewestDropsWrongFalsely : Prop := fnExactFewestDropsRow.holds Try.pinned (OpenSpec.ofChange fnExactFewestDropsWrong)

/-- 'laws.FnExactCrossingGroups': WHATEVER THE INPUT: true; the input reads as it did. -/
def fnExactCrossingGroupsSpec : ChangeSpec := { name := "fnExactCrossingGroups", fn := fun _ => fun
  | [d1, d2] => { results := [.lit (.bool true)], args := [d1, d2] }
  | _ => none }
def fnExactCrossingGroupsRow : OpenClaim := { program := "ytenkokkhdcjcaab", sum := "04227fd8b85a5c1609d05b4421e5539f80fc3a8026f62b416464a8b80197294d", func := "loop.example/g01324/laws.FnExactCrossingGroups", spec := "fnExactCrossingGroups", recurses := true, apart := false }
def FnExactCrossingGroupsSaid : Prop := fnExactCrossingGroupsRow.holds Try.pinned (OpenSpec.ofChange fnExactCrossingGroupsSpec)

/-- ITS FALSE NEIGHBOUR: 'it returns false'. Refute it at one input. -/
def fnExactCrossingGroupsWrong : ChangeSpec := { name := "fnExactCrossingGroups", fn := fun _ => fun
  | [d1, d2] => { results := [.lit (.bool false)], args := [d1, d2] }
  | _ => none }
def FnExactCrossingGroupsWrongFalsely : Prop := fnExactCrossingGroupsRow.holds Try.pinned (OpenSpec.ofChange fnExactCrossingGroupsWrong)

/-- 'laws.FnExactSidesOfChords': WHATEVER THE INPUT: true; the input reads as it did. -/
def fnExactSidesOfChordsSpec : ChangeSpec := { name := "fnExactSidesOfChords", fn := fun _ => fun
  | [d1, d2] => { results := [.lit (.bool true)], args := [d1, d2] }
  | _ => none }
def fnExactSidesOfChordsRow : OpenClaim := { program := "ytenkokkhdcjcaab", sum := "04227fd8b85a5c1609d05b4421e5539f80fc3a8026f62b416464a8b80197294d", func := "loop.example/g01324/laws.FnExactSidesOfChords", spec := "fnExactSidesOfChords", recurses := true, apart := false }
def FnExactSidesOfChordsSaid : Prop := fnExactSidesOfChordsRow.holds Try.pinned (OpenSpec.ofChange fnExactSidesOfChordsSpec)

/-- ITS FALSE NEIGHBOUR: 'it returns false'. Refute it at one input. -/
def fnExactSidesOfChordsWrong : ChangeSpec := { name := "fnExactSidesOfChords", fn := fun _ => fun
  | [d1, d2] => { results := [.lit (.bool false)], args := [d1, d2] }
  | _ => none }
def FnExactSidesOfChordsWrongFalsely : Prop := fnExactSidesOfChordsRow.holds Try.pinned (OpenSpec.ofChange fnExactSidesOfChordsWrong)

/-- 'laws.FnExactTurnChords': WHATEVER THE INPUT: true; the input reads as it did. -/
def fnExactTurnChordsSpec : ChangeSpec := { name := "fnExactTurnChords", fn := fun _ => fun
  | [d1, d2, d3] => { results := [.lit (.bool true)], args := [d1, d2, d3] }
  | _ => none }
def fnExactTurnChordsRow : OpenClaim := { program := "ytenkokkhdcjcaab", sum := "04227fd8b85a5c1609d05b4421e5539f80fc3a8026f62b416464a8b80197294d", func := "loop.example/g01324/laws.FnExactTurnChords", spec := "fnExactTurnChords", unfollowed := true, recurses := true, apart := false }
def FnExactTurnChordsSaid : Prop := fnExactTurnChordsRow.holds Try.pinned (OpenSpec.ofChange fnExactTurnChordsSpec)

/-- ITS FALSE NEIGHBOUR: 'it returns false'. Refute it at one input. -/
def fnExactTurnChordsWrong : ChangeSpec := { name := "fnExactTurnChords", fn := fun _ => fun
  | [d1, d2, d3] => { results := [.lit (.bool false)], args := [d1, d2, d3] }
  | _ => none }
def FnExactTurnChordsWrongFalsely : Prop := fnExactTurnChordsRow.holds Try.pinned (OpenSpec.ofChange fnExactTurnChordsWrong)

/-- 'laws.FnExactMirrorChords': WHATEVER THE INPUT: true; the input reads as it did. -/
def fnExactMirrorChordsSpec : ChangeSpec := { name := "fnExactMirrorChords", fn := fun _ => fun
  | [d1, d2] => { results := [.lit (.bool true)], args := [d1, d2] }
  | _ => none }
def fnExactMirrorChordsRow : OpenClaim := { program := "ytenkokkhdcjcaab", sum := "04227fd8b85a5c1609d05b4421e5539f80fc3a8026f62b416464a8b80197294d", func := "loop.example/g01324/laws.FnExactMirrorChords", spec := "fnExactMirrorChords", unfollowed := true, recurses := true, apart := false }
def FnExactMirrorChordsSaid : Prop := fnExactMirrorChordsRow.holds Try.pinned (OpenSpec.ofChange fnExactMirrorChordsSpec)

/-- ITS FALSE NEIGHBOUR: 'it returns false'. Refute it at one input. -/
def fnExactMirrorChordsWrong : ChangeSpec := { name := "fnExactMirrorChords", fn := fun _ => fun
  | [d1, d2] => { results := [.lit (.bool false)], args := [d1, d2] }
  | _ => none }
def FnExactMirrorChordsWrongFalsely : Prop := fnExactMirrorChordsRow.holds Try.pinned (OpenSpec.ofChange fnExactMirrorChordsWrong)

/- THE SECOND FORM. 'bulk': how many values and letters a reading holds, each counted each time it is reached (what is shared counts as often as it is met; a slice's spare places count too). A statement '..UptoSaid' is the law's where the arguments, and the package variables that the reading takes, are together of bulk at most 1048576: NARROWER than '..Said'. Prove '..Said' where nothing that the law and all that it calls make is longer than what came in: it says more and counts as full. Else prove '..UptoSaid'. A law counts once. -/
mutual
def uptoBulk {H : Type} : DataW H → Nat
  | .lit (.string bytes) => bytes.length + 1
  | .lit _ => 1
  | .nil => 1
  | .ptr d => uptoBulk d + 1
  | .slice elems spare => uptoBulkAll elems + uptoBulkAll spare + 1
  | .agg parts => uptoBulkAll parts + 1
  | .iface _ d => uptoBulk d + 1
  | .map entries => uptoBulkEntries entries + 1
  | .held _ => 1
def uptoBulkAll {H : Type} : List (DataW H) → Nat
  | [] => 0
  | d :: r => uptoBulk d + uptoBulkAll r
def uptoBulkEntries {H : Type} : List (Lit × DataW H) → Nat
  | [] => 0
  | x :: r => uptoBulkEntry x + uptoBulkEntries r
def uptoBulkEntry {H : Type} : Lit × DataW H → Nat
  | (.string bytes, d) => bytes.length + uptoBulk d + 1
  | (_, d) => uptoBulk d + 1
 end
def uptoSmall : (H : Type) → List (DataW H) → Bool := fun _ ds => decide (uptoBulkAll ds ≤ 1048576)
def OpenSpec.upto (s : _root_.Go.ChangeSpec) : _root_.Go.OpenSpec := { _root_.Go.OpenSpec.ofChange s with cond := some uptoSmall }

/-- 'laws.FnExactCountPlanePairings', WHERE WHAT IT READS IS OF BULK AT MOST 1048576: true; the input reads as it did. -/
def fnExactCountPlanePairingsUptoRow : OpenClaim := { program := "ytenkokkhdcjcaab", sum := "04227fd8b85a5c1609d05b4421e5539f80fc3a8026f62b416464a8b80197294d", func := "loop.example/g01324/laws.FnExactCountPlanePairings", spec := "fnExactCountPlanePairings", apart := false, narrowed := true }
def FnExactCountPlanePairingsUptoSaid : Prop := fnExactCountPlanePairingsUptoRow.holds Try.pinned (OpenSpec.upto fnExactCountPlanePairingsSpec)

/-- 'laws.FnExactCountPairings', WHERE WHAT IT READS IS OF BULK AT MOST 1048576: true; the input reads as it did. -/
def fnExactCountPairingsUptoRow : OpenClaim := { program := "ytenkokkhdcjcaab", sum := "04227fd8b85a5c1609d05b4421e5539f80fc3a8026f62b416464a8b80197294d", func := "loop.example/g01324/laws.FnExactCountPairings", spec := "fnExactCountPairings", recurses := true, apart := false, narrowed := true }
def FnExactCountPairingsUptoSaid : Prop := fnExactCountPairingsUptoRow.holds Try.pinned (OpenSpec.upto fnExactCountPairingsSpec)

/-- 'laws.FnExactIsPairing', WHERE WHAT IT READS IS OF BULK AT MOST 1048576: true; the input reads as it did. -/
def fnExactIsPairingUptoRow : OpenClaim := { program := "ytenkokkhdcjcaab", sum := "04227fd8b85a5c1609d05b4421e5539f80fc3a8026f62b416464a8b80197294d", func := "loop.example/g01324/laws.FnExactIsPairing", spec := "fnExactIsPairing", apart := false, narrowed := true }
def FnExactIsPairingUptoSaid : Prop := fnExactIsPairingUptoRow.holds Try.pinned (OpenSpec.upto fnExactIsPairingSpec)

/-- 'laws.FnExactPlanePairingOfRank', WHERE WHAT IT READS IS OF BULK AT MOST 1048576: true; the input reads as it did. -/
def fnExactPlanePairingOfRankUptoRow : OpenClaim := { program := "ytenkokkhdcjcaab", sum := "04227fd8b85a5c1609d05b4421e5539f80fc3a8026f62b416464a8b80197294d", func := "loop.example/g01324/laws.FnExactPlanePairingOfRank", spec := "fnExactPlanePairingOfRank", recurses := true, apart := false, narrowed := true }
def FnExactPlanePairingOfRankUptoSaid : Prop := fnExactPlanePairingOfRankUptoRow.holds Try.pinned (OpenSpec.upto fnExactPlanePairingOfRankSpec)

/-- 'laws.FnExactRankOfPlanePairing', WHERE WHAT IT READS IS OF BULK AT MOST 1048576: true; the input reads as it did. -/
def fnExactRankOfPlanePairingUptoRow : OpenClaim := { program := "ytenkokkhdcjcaab", sum := "04227fd8b85a5c1609d05b4421e5539f80fc3a8026f62b416464a8b80197294d", func := "loop.example/g01324/laws.FnExactRankOfPlanePairing", spec := "fnExactRankOfPlanePairing", recurses := true, apart := false, narrowed := true }
def FnExactRankOfPlanePairingUptoSaid : Prop := fnExactRankOfPlanePairingUptoRow.holds Try.pinned (OpenSpec.upto fnExactRankOfPlanePairingSpec)

/-- 'laws.FnExactFewestDrops', WHERE WHAT IT READS IS OF BULK AT MOST 1048576: true; the input reads as it did. -/
def fnExactFewestDropsUptoRow : OpenClaim := { program := "ytenkokkhdcjcaab", sum := "04227fd8b85a5c1609d05b4421e5539f80fc3a8026f62b416464a8b80197294d", func := "loop.example/g01324/laws.FnExactFewestDrops", spec := "fnExactFewestDrops", recurses := true, apart := false, narrowed := true }
def FnExactFewestDropsUptoSaid : Prop := fnExactFewestDropsUptoRow.holds Try.pinned (OpenSpec.upto fnExactFewestDropsSpec)

/-- 'laws.FnExactCrossingGroups', WHERE WHAT IT READS IS OF BULK AT MOST 1048576: true; the input reads as it did. -/
def fnExactCrossingGroupsUptoRow : OpenClaim := { program := "ytenkokkhdcjcaab", sum := "04227fd8b85a5c1609d05b4421e5539f80fc3a8026f62b416464a8b80197294d", func := "loop.example/g01324/laws.FnExactCrossingGroups", spec := "fnExactCrossingGroups", recurses := true, apart := false, narrowed := true }
def FnExactCrossingGroupsUptoSaid : Prop := fnExactCrossingGroupsUptoRow.holds Try.pinned (OpenSpec.upto fnExactCrossingGroupsSpec)

/-- 'laws.FnExactSidesOfChords', WHERE WHAT IT READS IS OF BULK AT MOST 1048576: true; the input reads as it did. -/
def fnExactSidesOfChordsUptoRow : OpenClaim := { program := "ytenkokkhdcjcaab", sum := "04227fd8b85a5c1609d05b4421e5539f80fc3a8026f62b416464a8b80197294d", func := "loop.example/g01324/laws.FnExactSidesOfChords", spec := "fnExactSidesOfChords", recurses := true, apart := false, narrowed := true }
def FnExactSidesOfChordsUptoSaid : Prop := fnExactSidesOfChordsUptoRow.holds Try.pinned (OpenSpec.upto fnExactSidesOfChordsSpec)

/-- 'laws.FnExactTurnChords', WHERE WHAT IT READS IS OF BULK AT MOST 1048576: true; the input reads as it did. -/
def fnExactTurnChordsUptoRow : OpenClaim := { program := "ytenkokkhdcjcaab", sum := "04227fd8b85a5c1609d05b4421e5539f80fc3a8026f62b416464a8b80197294d", func := "loop.example/g01324/laws.FnExactTurnChords", spec := "fnExactTurnChords", unfollowed := true, recurses := true, apart := false, narrowed := true }
def FnExactTurnChordsUptoSaid : Prop := fnExactTurnChordsUptoRow.holds Try.pinned (OpenSpec.upto fnExactTurnChordsSpec)

/-- 'laws.FnExactMirrorChords', WHERE WHAT IT READS IS OF BULK AT MOST 1048576: true; the input reads as it did. -/
def fnExactMirrorChordsUptoRow : OpenClaim := { program := "ytenkokkhdcjcaab", sum := "04227fd8b85a5c1609d05b4421e5539f80fc3a8026f62b416464a8b80197294d", func := "loop.example/g01324/laws.FnExactMirrorChords", spec := "fnExactMirrorChords", unfollowed := true, recurses := true, apart := false, narrowed := true }
def FnExactMirrorChordsUptoSaid : Prop := fnExactMirrorChordsUptoRow.holds Try.pinned (OpenSpec.upto fnExactMirrorChordsSpec)

end Rows
end Go.Proofs.Ytenkokkhdcjcaab
