/-
  No cell of these rows narrows 'for every input' (looked for: loops, veiled, ifaces, maps, wideKeys, modest, calm, conditions, laid).
  DERIVED. THE GIVEN ROWS OF THIS SEAT. 6 by the template 'for every input the law returns true; each argument reads behind the call as it read before'; 0 by the template 'total and deterministic' (their statements: YtngonpiiehmlaabTotals.lean).
  GIVEN WITH THE SEED: the statements are not yours to turn. If you find one false, say at which input.
  Laid BY PROGRAM, IN A SANDBOX (cutbox-rows.mjs): the forced cells as the released guide's own fill.sh prints them over the translation 1a6741289affa1a7… (all of the seat's roots in one cut). By AI agents, Wed Nov 11 2026. No macro, syntax, notation, axiom, sorry.
-/
import Derived.Test.YtngonpiiehmlaabChecked
import GoSem.Claim
import GoSem.ClaimJoined
import GoSem.ClaimMapViews
import Derived.JoinedTies
import Derived.KernelRfl
namespace Go.Proofs.Ytngonpiiehmlaab
/- THE CELL 'sum', in the pinned program and in every row, IS THE sha256 OF THE DUMP (.gsa) THAT YtngonpiiehmlaabProg.lean LOADS. Nothing in Lean hashes anything: it is a label: what it is worth is what the hold of that sum in a sandbox is worth. -/
noncomputable def Try.pinned : Pinned := { name := "ytngonpiiehmlaab", sum := "1a6741289affa1a78a5e65854f168d9bafb245bbf7fa8a84be7660a491c587b0", checked := Try.checked }
namespace Rows
def none {H : Type} : Left H := { results := [], args := [] }

/-- 'laws.FnExactHighestAt': WHATEVER THE INPUT: true; the input reads as it did. -/
def fnExactHighestAtSpec : ChangeSpec := { name := "fnExactHighestAt", fn := fun _ => fun
  | [d1, d2] => { results := [.lit (.bool true)], args := [d1, d2] }
  | _ => none }
def fnExactHighestAtRow : OpenClaim := { program := "ytngonpiiehmlaab", sum := "1a6741289affa1a78a5e65854f168d9bafb245bbf7fa8a84be7660a491c587b0", func := "loop.example/g01324/laws.FnExactHighestAt", spec := "fnExactHighestAt", unfollowed := true, recurses := true, apart := false }
def FnExactHighestAtSaid : Prop := fnExactHighestAtRow.holds Try.pinned (OpenSpec.ofChange fnExactHighestAtSpec)

/-- ITS FALSE NEIGHBOUR: 'it returns false'. Refute it at one input. -/
def fnExactHighestAtWrong : ChangeSpec := { name := "fnExactHighestAt", fn := fun _ => fun
  | [d1, d2] => { results := [.lit (.bool false)], args := [d1, d2] }
  | _ => none }
def FnExactHighestAtWrongFalsely : Prop := fnExactHighestAtRow.holds Try.pinned (OpenSpec.ofChange fnExactHighestAtWrong)

/-- 'laws.FnExactEdgeThreads': WHATEVER THE INPUT: true; the input reads as it did. -/
def fnExactEdgeThreadsSpec : ChangeSpec := { name := "fnExactEdgeThreads", fn := fun _ => fun
  | [d] => { results := [.lit (.bool true)], args := [d] }
  | _ => none }
def fnExactEdgeThreadsRow : OpenClaim := { program := "ytngonpiiehmlaab", sum := "1a6741289affa1a78a5e65854f168d9bafb245bbf7fa8a84be7660a491c587b0", func := "loop.example/g01324/laws.FnExactEdgeThreads", spec := "fnExactEdgeThreads", apart := false }
def FnExactEdgeThreadsSaid : Prop := fnExactEdgeThreadsRow.holds Try.pinned (OpenSpec.ofChange fnExactEdgeThreadsSpec)

/-- ITS FALSE NEIGHBOUR: 'it returns false'. Refute it at one input. -/
def fnExactEdgeThreadsWrong : ChangeSpec := { name := "fnExactEdgeThreads", fn := fun _ => fun
  | [d] => { results := [.lit (.bool false)], args := [d] }
  | _ => none }
def FnExactEdgeThreadsWrongFalsely : Prop := fnExactEdgeThreadsRow.holds Try.pinned (OpenSpec.ofChange fnExactEdgeThreadsWrong)

/-- 'laws.FnExactEdgeCorners': WHATEVER THE INPUT: true; the input reads as it did. -/
def fnExactEdgeCornersSpec : ChangeSpec := { name := "fnExactEdgeCorners", fn := fun _ => fun
  | [d] => { results := [.lit (.bool true)], args := [d] }
  | _ => none }
def fnExactEdgeCornersRow : OpenClaim := { program := "ytngonpiiehmlaab", sum := "1a6741289affa1a78a5e65854f168d9bafb245bbf7fa8a84be7660a491c587b0", func := "loop.example/g01324/laws.FnExactEdgeCorners", spec := "fnExactEdgeCorners", apart := false }
def FnExactEdgeCornersSaid : Prop := fnExactEdgeCornersRow.holds Try.pinned (OpenSpec.ofChange fnExactEdgeCornersSpec)

/-- ITS FALSE NEIGHBOUR: 'it returns false'. Refute it at one input. -/
def fnExactEdgeCornersWrong : ChangeSpec := { name := "fnExactEdgeCorners", fn := fun _ => fun
  | [d] => { results := [.lit (.bool false)], args := [d] }
  | _ => none }
def FnExactEdgeCornersWrongFalsely : Prop := fnExactEdgeCornersRow.holds Try.pinned (OpenSpec.ofChange fnExactEdgeCornersWrong)

/-- 'laws.FnExactCountUnder': WHATEVER THE INPUT: true; the input reads as it did. -/
def fnExactCountUnderSpec : ChangeSpec := { name := "fnExactCountUnder", fn := fun _ => fun
  | [d] => { results := [.lit (.bool true)], args := [d] }
  | _ => none }
def fnExactCountUnderRow : OpenClaim := { program := "ytngonpiiehmlaab", sum := "1a6741289affa1a78a5e65854f168d9bafb245bbf7fa8a84be7660a491c587b0", func := "loop.example/g01324/laws.FnExactCountUnder", spec := "fnExactCountUnder", unfollowed := true, recurses := true, apart := false }
def FnExactCountUnderSaid : Prop := fnExactCountUnderRow.holds Try.pinned (OpenSpec.ofChange fnExactCountUnderSpec)

/-- ITS FALSE NEIGHBOUR: 'it returns false'. Refute it at one input. -/
def fnExactCountUnderWrong : ChangeSpec := { name := "fnExactCountUnder", fn := fun _ => fun
  | [d] => { results := [.lit (.bool false)], args := [d] }
  | _ => none }
def FnExactCountUnderWrongFalsely : Prop := fnExactCountUnderRow.holds Try.pinned (OpenSpec.ofChange fnExactCountUnderWrong)

/-- 'laws.FnExactHiddenThreads': WHATEVER THE INPUT: true; the input reads as it did. -/
def fnExactHiddenThreadsSpec : ChangeSpec := { name := "fnExactHiddenThreads", fn := fun _ => fun
  | [d] => { results := [.lit (.bool true)], args := [d] }
  | _ => none }
def fnExactHiddenThreadsRow : OpenClaim := { program := "ytngonpiiehmlaab", sum := "1a6741289affa1a78a5e65854f168d9bafb245bbf7fa8a84be7660a491c587b0", func := "loop.example/g01324/laws.FnExactHiddenThreads", spec := "fnExactHiddenThreads", unfollowed := true, recurses := true, apart := false }
def FnExactHiddenThreadsSaid : Prop := fnExactHiddenThreadsRow.holds Try.pinned (OpenSpec.ofChange fnExactHiddenThreadsSpec)

/-- ITS FALSE NEIGHBOUR: 'it returns false'. Refute it at one input. -/
def fnExactHiddenThreadsWrong : ChangeSpec := { name := "fnExactHiddenThreads", fn := fun _ => fun
  | [d] => { results := [.lit (.bool false)], args := [d] }
  | _ => none }
def FnExactHiddenThreadsWrongFalsely : Prop := fnExactHiddenThreadsRow.holds Try.pinned (OpenSpec.ofChange fnExactHiddenThreadsWrong)

/-- 'laws.FnExactFewestDrops': WHATEVER THE INPUT: true; the input reads as it did. -/
def fnExactFewestDropsSpec : ChangeSpec := { name := "fnExactFewestDrops", fn := fun _ => fun
  | [d1, d2] => { results := [.lit (.bool true)], args := [d1, d2] }
  | _ => none }
def fnExactFewestDropsRow : OpenClaim := { program := "ytngonpiiehmlaab", sum := "1a6741289affa1a78a5e65854f168d9bafb245bbf7fa8a84be7660a491c587b0", func := "loop.example/g01324/laws.FnExactFewestDrops", spec := "fnExactFewestDrops", recurses := true, apart := false }
def FnExactFewestDropsSaid : Prop := fnExactFewestDropsRow.holds Try.pinned (OpenSpec.ofChange fnExactFewestDropsSpec)

/-- ITS FALSE NEIGHBOUR: 'it returns false'. Refute it at one input. -/
def fnExactFewestDropsWrong : ChangeSpec := { name := "fnExactFewestDrops", fn := fun _ => fun
  | [d1, d2] => { results := [.lit (.bool false)], args := [d1, d2] }
  | _ => none }
def FnExactFewestDropsWrongFalsely : Prop := fnExactFewestDropsRow.holds Try.pinned (OpenSpec.ofChange fnExactFewestDropsWrong)

/- THE SECOND FORM. 'bulk': how many values and letters a reading holds, each counted each time it is reached (what is shared counts as often as it is met; a slice's spare places count too). A statement '..UptoSaid' is the law's where the arguments, and the package variables that the reading takes, are together of bulk at most 1048576: NARROWER than '..Said'. Prove '..Said' where nothing that the law and all that it calls make is longer than what came in: it says more and counts as full. Else prove '..UptoSaid'. A law counts once. -/
mutual
def uptoBulk {H : Type} : DataW H → Nat
  | .lit (.string bytes) => bytes.length + 1
  | .lit _ => 1
  | .nil => 1
  | .ptr d => uptoBulk d + 1
  | .slice elems spare => uptoBulkAll elems + uptoBulkAll spare + 1
  | .agg parts => uptoBulkAll parts + 1
  | .iface _ d => uptoBulk d + 1
  | .map entries => uptoBulkEntries entries + 1
  | .held _ => 1
def uptoBulkAll {H : Type} : List (DataW H) → Nat
  | [] => 0
  | d :: r => uptoBulk d + uptoBulkAll r
def uptoBulkEntries {H : Type} : List (Lit × DataW H) → Nat
  | [] => 0
  | x :: r => uptoBulkEntry x + uptoBulkEntries r
def uptoBulkEntry {H : Type} : Lit × DataW H → Nat
  | (.string bytes, d) => bytes.length + uptoBulk d + 1
  | (_, d) => uptoBulk d + 1
 end
def uptoSmall : (H : Type) → List (DataW H) → Bool := fun _ ds => decide (uptoBulkAll ds ≤ 1048576)
def OpenSpec.upto (s : _root_.Go.ChangeSpec) : _root_.Go.OpenSpec := { _root_.Go.OpenSpec.ofChange s with cond := some uptoSmall }

/-- 'laws.FnExactHighestAt', WHERE WHAT IT READS IS OF BULK AT MOST 1048576: true; the input reads as it did. -/
def fnExactHighestAtUptoRow : OpenClaim := { program := "ytngonpiiehmlaab", sum := "1a6741289affa1a78a5e65854f168d9bafb245bbf7fa8a84be7660a491c587b0", func := "loop.example/g01324/laws.FnExactHighestAt", spec := "fnExactHighestAt", unfollowed := true, recurses := true, apart := false, narrowed := true }
def FnExactHighestAtUptoSaid : Prop := fnExactHighestAtUptoRow.holds Try.pinned (OpenSpec.upto fnExactHighestAtSpec)

/-- 'laws.FnExactEdgeThreads', WHERE WHAT IT READS IS OF BULK AT MOST 1048576: true; the input reads as it did. -/
def fnExactEdgeThreadsUptoRow : OpenClaim := { program := "ytngonpiiehmlaab", sum := "1a6741289affa1a78a5e65854f168d9bafb245bbf7fa8a84be7660a491c587b0", func := "loop.example/g01324/laws.FnExactEdgeThreads", spec := "fnExactEdgeThreads", apart := false, narrowed := true }
def FnExactEdgeThreadsUptoSaid : Prop := fnExactEdgeThreadsUptoRow.holds Try.pinned (OpenSpec.upto fnExactEdgeThreadsSpec)

/-- 'laws.FnExactEdgeCorners', WHERE WHAT IT READS IS OF BULK AT MOST 1048576: true; the input reads as it did. -/
def fnExactEdgeCornersUptoRow : OpenClaim := { program := "ytngonpiiehmlaab", sum := "1a6741289affa1a78a5e65854f168d9bafb245bbf7fa8a84be7660a491c587b0", func := "loop.example/g01324/laws.FnExactEdgeCorners", spec := "fnExactEdgeCorners", apart := false, narrowed := true }
def FnExactEdgeCornersUptoSaid : Prop := fnExactEdgeCornersUptoRow.holds Try.pinned (OpenSpec.upto fnExactEdgeCornersSpec)

/-- 'laws.FnExactCountUnder', WHERE WHAT IT READS IS OF BULK AT MOST 1048576: true; the input reads as it did. -/
def fnExactCountUnderUptoRow : OpenClaim := { program := "ytngonpiiehmlaab", sum := "1a6741289affa1a78a5e65854f168d9bafb245bbf7fa8a84be7660a491c587b0", func := "loop.example/g01324/laws.FnExactCountUnder", spec := "fnExactCountUnder", unfollowed := true, recurses := true, apart := false, narrowed := true }
def FnExactCountUnderUptoSaid : Prop := fnExactCountUnderUptoRow.holds Try.pinned (OpenSpec.upto fnExactCountUnderSpec)

/-- 'laws.FnExactHiddenThreads', WHERE WHAT IT READS IS OF BULK AT MOST 1048576: true; the input reads as it did. -/
def fnExactHiddenThreadsUptoRow : OpenClaim := { program := "ytngonpiiehmlaab", sum := "1a6741289affa1a78a5e65854f168d9bafb245bbf7fa8a84be7660a491c587b0", func := "loop.example/g01324/laws.FnExactHiddenThreads", spec := "fnExactHiddenThreads", unfollowed := true, recurses := true, apart := false, narrowed := true }
def FnExactHiddenThreadsUptoSaid : Prop := fnExactHiddenThreadsUptoRow.holds Try.pinned (OpenSpec.upto fnExactHiddenThreadsSpec)

/-- 'laws.FnExactFewestDrops', WHERE WHAT IT READS IS OF BULK AT MOST 1048576: true; the input reads as it did. -/
def fnExactFewestDropsUptoRow : OpenClaim := { program := "ytngonpiiehmlaab", sum := "1a6741289affa1a78a5e65854f168d9bafb245bbf7fa8a84be7660a491c587b0", func := "loop.example/g01324/laws.FnExactFewestDrops", spec := "fnExactFewestDrops", recurses := true, apart := false, narrowed := true }
def FnExactFewestDropsUptoSaid : Prop := fnExactFewestDropsUptoRow.holds Try.pinned (OpenSpec.upto fnExactFewestDropsSpec)

end Rows
end Go.Proofs.Ytngonpiiehmlaab
