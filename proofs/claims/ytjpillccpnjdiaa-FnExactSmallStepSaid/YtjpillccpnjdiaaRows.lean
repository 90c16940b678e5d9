/-
  No cell of these rows narrows 'for every input' (looked for: loops, veiled, ifaces, maps, wideKeys, modest, calm, conditions, laid).
  DERIVED. THE GIVEN ROWS OF THIS SEAT. 12 by the template 'for every input the law returns true; each argument reads behind the call as it read before'; 0 by the template 'total and deterministic' (their statements: YtjpillccpnjdiaaTotals.lean).
  GIVEN WITH THE SEED: the statements are not yours to turn. If you find one false, say at which input.
  Laid BY PROGRAM, IN A SANDBOX (cutbox-rows.mjs): the forced cells as the released guide's own fill.sh prints them over the translation 23bc7ec9a4f397c6… (all of the seat's roots in one cut). By AI agents, Wed Nov 11 2026. No macro, syntax, notation, axiom, sorry.
-/
import Derived.Test.YtjpillccpnjdiaaChecked
import GoSem.Claim
import GoSem.ClaimJoined
import GoSem.ClaimMapViews
import Derived.JoinedTies
import Derived.KernelRfl
namespace Go.Proofs.Ytjpillccpnjdiaa
/- THE CELL 'sum', in the pinned program and in every row, IS THE sha256 OF THE DUMP (.gsa) THAT YtjpillccpnjdiaaProg.lean LOADS. Nothing in Lean hashes anything: it is a label: what it is worth is what the hold of that sum in a sandbox is worth. -/
noncomputable def Try.pinned : Pinned := { name := "ytjpillccpnjdiaa", sum := "23bc7ec9a4f397c63eb983f47a6d29caf4b278925efead756fcf627f17af2107", checked := Try.checked }
namespace Rows
def none {H : Type} : Left H := { results := [], args := [] }

/-- 'laws.FnExactIsStar': WHATEVER THE INPUT: true; the input reads as it did. -/
def fnExactIsStarSpec : ChangeSpec := { name := "fnExactIsStar", fn := fun _ => fun
  | [d] => { results := [.lit (.bool true)], args := [d] }
  | _ => none }
def fnExactIsStarRow : OpenClaim := { program := "ytjpillccpnjdiaa", sum := "23bc7ec9a4f397c63eb983f47a6d29caf4b278925efead756fcf627f17af2107", func := "loop.example/g01324/laws.FnExactIsStar", spec := "fnExactIsStar", apart := false }
def FnExactIsStarSaid : Prop := fnExactIsStarRow.holds Try.pinned (OpenSpec.ofChange fnExactIsStarSpec)

/-- ITS FALSE NEIGHBOUR: 'it returns false'. Refute it at one input. -/
def fnExactIsStarWrong : ChangeSpec := { name := "fnExactIsStar", fn := fun _ => fun
  | [d] => { results := [.lit (.bool false)], args := [d] }
  | _ => none }
def FnExactIsStarWrongFalsely : Prop := fnExactIsStarRow.holds Try.pinned (OpenSpec.ofChange fnExactIsStarWrong)

/-- 'laws.FnExactNextPoint': WHATEVER THE INPUT: true; the input reads as it did. -/
def fnExactNextPointSpec : ChangeSpec := { name := "fnExactNextPoint", fn := fun _ => fun
  | [d1, d2] => { results := [.lit (.bool true)], args := [d1, d2] }
  | _ => none }
def fnExactNextPointRow : OpenClaim := { program := "ytjpillccpnjdiaa", sum := "23bc7ec9a4f397c63eb983f47a6d29caf4b278925efead756fcf627f17af2107", func := "loop.example/g01324/laws.FnExactNextPoint", spec := "fnExactNextPoint", apart := false }
def FnExactNextPointSaid : Prop := fnExactNextPointRow.holds Try.pinned (OpenSpec.ofChange fnExactNextPointSpec)

/-- ITS FALSE NEIGHBOUR: 'it returns false'. Refute it at one input. -/
def fnExactNextPointWrong : ChangeSpec := { name := "fnExactNextPoint", fn := fun _ => fun
  | [d1, d2] => { results := [.lit (.bool false)], args := [d1, d2] }
  | _ => none }
def FnExactNextPointWrongFalsely : Prop := fnExactNextPointRow.holds Try.pinned (OpenSpec.ofChange fnExactNextPointWrong)

/-- 'laws.FnExactPointAfter': WHATEVER THE INPUT: true; the input reads as it did. -/
def fnExactPointAfterSpec : ChangeSpec := { name := "fnExactPointAfter", fn := fun _ => fun
  | [d1, d2, d3] => { results := [.lit (.bool true)], args := [d1, d2, d3] }
  | _ => none }
def fnExactPointAfterRow : OpenClaim := { program := "ytjpillccpnjdiaa", sum := "23bc7ec9a4f397c63eb983f47a6d29caf4b278925efead756fcf627f17af2107", func := "loop.example/g01324/laws.FnExactPointAfter", spec := "fnExactPointAfter", apart := false }
def FnExactPointAfterSaid : Prop := fnExactPointAfterRow.holds Try.pinned (OpenSpec.ofChange fnExactPointAfterSpec)

/-- ITS FALSE NEIGHBOUR: 'it returns false'. Refute it at one input. -/
def fnExactPointAfterWrong : ChangeSpec := { name := "fnExactPointAfter", fn := fun _ => fun
  | [d1, d2, d3] => { results := [.lit (.bool false)], args := [d1, d2, d3] }
  | _ => none }
def FnExactPointAfterWrongFalsely : Prop := fnExactPointAfterRow.holds Try.pinned (OpenSpec.ofChange fnExactPointAfterWrong)

/-- 'laws.FnExactCountStrings': WHATEVER THE INPUT: true; the input reads as it did. -/
def fnExactCountStringsSpec : ChangeSpec := { name := "fnExactCountStrings", fn := fun _ => fun
  | [d] => { results := [.lit (.bool true)], args := [d] }
  | _ => none }
def fnExactCountStringsRow : OpenClaim := { program := "ytjpillccpnjdiaa", sum := "23bc7ec9a4f397c63eb983f47a6d29caf4b278925efead756fcf627f17af2107", func := "loop.example/g01324/laws.FnExactCountStrings", spec := "fnExactCountStrings", apart := false }
def FnExactCountStringsSaid : Prop := fnExactCountStringsRow.holds Try.pinned (OpenSpec.ofChange fnExactCountStringsSpec)

/-- ITS FALSE NEIGHBOUR: 'it returns false'. Refute it at one input. -/
def fnExactCountStringsWrong : ChangeSpec := { name := "fnExactCountStrings", fn := fun _ => fun
  | [d] => { results := [.lit (.bool false)], args := [d] }
  | _ => none }
def FnExactCountStringsWrongFalsely : Prop := fnExactCountStringsRow.holds Try.pinned (OpenSpec.ofChange fnExactCountStringsWrong)

/-- 'laws.FnExactTurnsOf': WHATEVER THE INPUT: true; the input reads as it did. -/
def fnExactTurnsOfSpec : ChangeSpec := { name := "fnExactTurnsOf", fn := fun _ => fun
  | [d] => { results := [.lit (.bool true)], args := [d] }
  | _ => none }
def fnExactTurnsOfRow : OpenClaim := { program := "ytjpillccpnjdiaa", sum := "23bc7ec9a4f397c63eb983f47a6d29caf4b278925efead756fcf627f17af2107", func := "loop.example/g01324/laws.FnExactTurnsOf", spec := "fnExactTurnsOf", apart := false }
def FnExactTurnsOfSaid : Prop := fnExactTurnsOfRow.holds Try.pinned (OpenSpec.ofChange fnExactTurnsOfSpec)

/-- ITS FALSE NEIGHBOUR: 'it returns false'. Refute it at one input. -/
def fnExactTurnsOfWrong : ChangeSpec := { name := "fnExactTurnsOf", fn := fun _ => fun
  | [d] => { results := [.lit (.bool false)], args := [d] }
  | _ => none }
def FnExactTurnsOfWrongFalsely : Prop := fnExactTurnsOfRow.holds Try.pinned (OpenSpec.ofChange fnExactTurnsOfWrong)

/-- 'laws.FnExactSmallStep': WHATEVER THE INPUT: true; the input reads as it did. -/
def fnExactSmallStepSpec : ChangeSpec := { name := "fnExactSmallStep", fn := fun _ => fun
  | [d] => { results := [.lit (.bool true)], args := [d] }
  | _ => none }
def fnExactSmallStepRow : OpenClaim := { program := "ytjpillccpnjdiaa", sum := "23bc7ec9a4f397c63eb983f47a6d29caf4b278925efead756fcf627f17af2107", func := "loop.example/g01324/laws.FnExactSmallStep", spec := "fnExactSmallStep", apart := false }
def FnExactSmallStepSaid : Prop := fnExactSmallStepRow.holds Try.pinned (OpenSpec.ofChange fnExactSmallStepSpec)

/-- ITS FALSE NEIGHBOUR: 'it returns false'. Refute it at one input. -/
def fnExactSmallStepWrong : ChangeSpec := { name := "fnExactSmallStep", fn := fun _ => fun
  | [d] => { results := [.lit (.bool false)], args := [d] }
  | _ => none }
def FnExactSmallStepWrongFalsely : Prop := fnExactSmallStepRow.holds Try.pinned (OpenSpec.ofChange fnExactSmallStepWrong)

/-- 'laws.FnExactStringOf': WHATEVER THE INPUT: true; the input reads as it did. -/
def fnExactStringOfSpec : ChangeSpec := { name := "fnExactStringOf", fn := fun _ => fun
  | [d1, d2] => { results := [.lit (.bool true)], args := [d1, d2] }
  | _ => none }
def fnExactStringOfRow : OpenClaim := { program := "ytjpillccpnjdiaa", sum := "23bc7ec9a4f397c63eb983f47a6d29caf4b278925efead756fcf627f17af2107", func := "loop.example/g01324/laws.FnExactStringOf", spec := "fnExactStringOf", apart := false }
def FnExactStringOfSaid : Prop := fnExactStringOfRow.holds Try.pinned (OpenSpec.ofChange fnExactStringOfSpec)

/-- ITS FALSE NEIGHBOUR: 'it returns false'. Refute it at one input. -/
def fnExactStringOfWrong : ChangeSpec := { name := "fnExactStringOf", fn := fun _ => fun
  | [d1, d2] => { results := [.lit (.bool false)], args := [d1, d2] }
  | _ => none }
def FnExactStringOfWrongFalsely : Prop := fnExactStringOfRow.holds Try.pinned (OpenSpec.ofChange fnExactStringOfWrong)

/-- 'laws.FnExactStringsOf': WHATEVER THE INPUT: true; the input reads as it did. -/
def fnExactStringsOfSpec : ChangeSpec := { name := "fnExactStringsOf", fn := fun _ => fun
  | [d] => { results := [.lit (.bool true)], args := [d] }
  | _ => none }
def fnExactStringsOfRow : OpenClaim := { program := "ytjpillccpnjdiaa", sum := "23bc7ec9a4f397c63eb983f47a6d29caf4b278925efead756fcf627f17af2107", func := "loop.example/g01324/laws.FnExactStringsOf", spec := "fnExactStringsOf", apart := false }
def FnExactStringsOfSaid : Prop := fnExactStringsOfRow.holds Try.pinned (OpenSpec.ofChange fnExactStringsOfSpec)

/-- ITS FALSE NEIGHBOUR: 'it returns false'. Refute it at one input. -/
def fnExactStringsOfWrong : ChangeSpec := { name := "fnExactStringsOf", fn := fun _ => fun
  | [d] => { results := [.lit (.bool false)], args := [d] }
  | _ => none }
def FnExactStringsOfWrongFalsely : Prop := fnExactStringsOfRow.holds Try.pinned (OpenSpec.ofChange fnExactStringsOfWrong)

/-- 'laws.FnExactStarsOf': WHATEVER THE INPUT: true; the input reads as it did. -/
def fnExactStarsOfSpec : ChangeSpec := { name := "fnExactStarsOf", fn := fun _ => fun
  | [d] => { results := [.lit (.bool true)], args := [d] }
  | _ => none }
def fnExactStarsOfRow : OpenClaim := { program := "ytjpillccpnjdiaa", sum := "23bc7ec9a4f397c63eb983f47a6d29caf4b278925efead756fcf627f17af2107", func := "loop.example/g01324/laws.FnExactStarsOf", spec := "fnExactStarsOf", apart := false }
def FnExactStarsOfSaid : Prop := fnExactStarsOfRow.holds Try.pinned (OpenSpec.ofChange fnExactStarsOfSpec)

/-- ITS FALSE NEIGHBOUR: 'it returns false'. Refute it at one input. -/
def fnExactStarsOfWrong : ChangeSpec := { name := "fnExactStarsOf", fn := fun _ => fun
  | [d] => { results := [.lit (.bool false)], args := [d] }
  | _ => none }
def FnExactStarsOfWrongFalsely : Prop := fnExactStarsOfRow.holds Try.pinned (OpenSpec.ofChange fnExactStarsOfWrong)

/-- 'laws.FnExactOneString': WHATEVER THE INPUT: true; the input reads as it did. -/
def fnExactOneStringSpec : ChangeSpec := { name := "fnExactOneString", fn := fun _ => fun
  | [d] => { results := [.lit (.bool true)], args := [d] }
  | _ => none }
def fnExactOneStringRow : OpenClaim := { program := "ytjpillccpnjdiaa", sum := "23bc7ec9a4f397c63eb983f47a6d29caf4b278925efead756fcf627f17af2107", func := "loop.example/g01324/laws.FnExactOneString", spec := "fnExactOneString", apart := false }
def FnExactOneStringSaid : Prop := fnExactOneStringRow.holds Try.pinned (OpenSpec.ofChange fnExactOneStringSpec)

/-- ITS FALSE NEIGHBOUR: 'it returns false'. Refute it at one input. -/
def fnExactOneStringWrong : ChangeSpec := { name := "fnExactOneString", fn := fun _ => fun
  | [d] => { results := [.lit (.bool false)], args := [d] }
  | _ => none }
def FnExactOneStringWrongFalsely : Prop := fnExactOneStringRow.holds Try.pinned (OpenSpec.ofChange fnExactOneStringWrong)

/-- 'laws.FnExactStepsBetween': WHATEVER THE INPUT: true; the input reads as it did. -/
def fnExactStepsBetweenSpec : ChangeSpec := { name := "fnExactStepsBetween", fn := fun _ => fun
  | [d1, d2, d3] => { results := [.lit (.bool true)], args := [d1, d2, d3] }
  | _ => none }
def fnExactStepsBetweenRow : OpenClaim := { program := "ytjpillccpnjdiaa", sum := "23bc7ec9a4f397c63eb983f47a6d29caf4b278925efead756fcf627f17af2107", func := "loop.example/g01324/laws.FnExactStepsBetween", spec := "fnExactStepsBetween", apart := false }
def FnExactStepsBetweenSaid : Prop := fnExactStepsBetweenRow.holds Try.pinned (OpenSpec.ofChange fnExactStepsBetweenSpec)

/-- ITS FALSE NEIGHBOUR: 'it returns false'. Refute it at one input. -/
def fnExactStepsBetweenWrong : ChangeSpec := { name := "fnExactStepsBetween", fn := fun _ => fun
  | [d1, d2, d3] => { results := [.lit (.bool false)], args := [d1, d2, d3] }
  | _ => none }
def FnExactStepsBetweenWrongFalsely : Prop := fnExactStepsBetweenRow.holds Try.pinned (OpenSpec.ofChange fnExactStepsBetweenWrong)

/-- 'laws.FnExactStepTo': WHATEVER THE INPUT: true; the input reads as it did. -/
def fnExactStepToSpec : ChangeSpec := { name := "fnExactStepTo", fn := fun _ => fun
  | [d1, d2, d3, d4] => { results := [.lit (.bool true)], args := [d1, d2, d3, d4] }
  | _ => none }
def fnExactStepToRow : OpenClaim := { program := "ytjpillccpnjdiaa", sum := "23bc7ec9a4f397c63eb983f47a6d29caf4b278925efead756fcf627f17af2107", func := "loop.example/g01324/laws.FnExactStepTo", spec := "fnExactStepTo", apart := false }
def FnExactStepToSaid : Prop := fnExactStepToRow.holds Try.pinned (OpenSpec.ofChange fnExactStepToSpec)

/-- ITS FALSE NEIGHBOUR: 'it returns false'. Refute it at one input. -/
def fnExactStepToWrong : ChangeSpec := { name := "fnExactStepTo", fn := fun _ => fun
  | [d1, d2, d3, d4] => { results := [.lit (.bool false)], args := [d1, d2, d3, d4] }
  | _ => none }
def FnExactStepToWrongFalsely : Prop := fnExactStepToRow.holds Try.pinned (OpenSpec.ofChange fnExactStepToWrong)

/- THE SECOND FORM. 'bulk': how many values and letters a reading holds, each counted each time it is reached (what is shared counts as often as it is met; a slice's spare places count too). A statement '..UptoSaid' is the law's where the arguments, and the package variables that the reading takes, are together of bulk at most 1048576: NARROWER than '..Said'. Prove '..Said' where nothing that the law and all that it calls make is longer than what came in: it says more and counts as full. Else prove '..UptoSaid'. A law counts once. -/
mutual
def uptoBulk {H : Type} : DataW H → Nat
  | .lit (.string bytes) => bytes.length + 1
  | .lit _ => 1
  | .nil => 1
  | .ptr d => uptoBulk d + 1
  | .slice elems spare => uptoBulkAll elems + uptoBulkAll spare + 1
  | .agg parts => uptoBulkAll parts + 1
  | .iface _ d => uptoBulk d + 1
  | .map entries => uptoBulkEntries entries + 1
  | .held _ => 1
def uptoBulkAll {H : Type} : List (DataW H) → Nat
  | [] => 0
  | d :: r => uptoBulk d + uptoBulkAll r
def uptoBulkEntries {H : Type} : List (Lit × DataW H) → Nat
  | [] => 0
  | x :: r => uptoBulkEntry x + uptoBulkEntries r
def uptoBulkEntry {H : Type} : Lit × DataW H → Nat
  | (.string bytes, d) => bytes.length + uptoBulk d + 1
  | (_, d) => uptoBulk d + 1
 end
def uptoSmall : (H : Type) → List (DataW H) → Bool := fun _ ds => decide (uptoBulkAll ds ≤ 1048576)
def OpenSpec.upto (s : _root_.Go.ChangeSpec) : _root_.Go.OpenSpec := { _root_.Go.OpenSpec.ofChange s with cond := some uptoSmall }

/-- 'laws.FnExactIsStar', WHERE WHAT IT READS IS OF BULK AT MOST 1048576: true; the input reads as it did. -/
def fnExactIsStarUptoRow : OpenClaim := { program := "ytjpillccpnjdiaa", sum := "23bc7ec9a4f397c63eb983f47a6d29caf4b278925efead756fcf627f17af2107", func := "loop.example/g01324/laws.FnExactIsStar", spec := "fnExactIsStar", apart := false, narrowed := true }
def FnExactIsStarUptoSaid : Prop := fnExactIsStarUptoRow.holds Try.pinned (OpenSpec.upto fnExactIsStarSpec)

/-- 'laws.FnExactNextPoint', WHERE WHAT IT READS IS OF BULK AT MOST 1048576: true; the input reads as it did. -/
def fnExactNextPointUptoRow : OpenClaim := { program := "ytjpillccpnjdiaa", sum := "23bc7ec9a4f397c63eb983f47a6d29caf4b278925efead756fcf627f17af2107", func := "loop.example/g01324/laws.FnExactNextPoint", spec := "fnExactNextPoint", apart := false, narrowed := true }
def FnExactNextPointUptoSaid : Prop := fnExactNextPointUptoRow.holds Try.pinned (OpenSpec.upto fnExactNextPointSpec)

/-- 'laws.FnExactPointAfter', WHERE WHAT IT READS IS OF BULK AT MOST 1048576: true; the input reads as it did. -/
def fnExactPointAfterUptoRow : OpenClaim := { program := "ytjpillccpnjdiaa", sum := "23bc7ec9a4f397c63eb983f47a6d29caf4b278925efead756fcf627f17af2107", func := "loop.example/g01324/laws.FnExactPointAfter", spec := "fnExactPointAfter", apart := false, narrowed := true }
def FnExactPointAfterUptoSaid : Prop := fnExactPointAfterUptoRow.holds Try.pinned (OpenSpec.upto fnExactPointAfterSpec)

/-- 'laws.FnExactCountStrings', WHERE WHAT IT READS IS OF BULK AT MOST 1048576: true; the input reads as it did. -/
def fnExactCountStringsUptoRow : OpenClaim := { program := "ytjpillccpnjdiaa", sum := "23bc7ec9a4f397c63eb983f47a6d29caf4b278925efead756fcf627f17af2107", func := "loop.example/g01324/laws.FnExactCountStrings", spec := "fnExactCountStrings", apart := false, narrowed := true }
def FnExactCountStringsUptoSaid : Prop := fnExactCountStringsUptoRow.holds Try.pinned (OpenSpec.upto fnExactCountStringsSpec)

/-- 'laws.FnExactTurnsOf', WHERE WHAT IT READS IS OF BULK AT MOST 1048576: true; the input reads as it did. -/
def fnExactTurnsOfUptoRow : OpenClaim := { program := "ytjpillccpnjdiaa", sum := "23bc7ec9a4f397c63eb983f47a6d29caf4b278925efead756fcf627f17af2107", func := "loop.example/g01324/laws.FnExactTurnsOf", spec := "fnExactTurnsOf", apart := false, narrowed := true }
def FnExactTurnsOfUptoSaid : Prop := fnExactTurnsOfUptoRow.holds Try.pinned (OpenSpec.upto fnExactTurnsOfSpec)

/-- 'laws.FnExactSmallStep', WHERE WHAT IT READS IS OF BULK AT MOST 1048576: true; the input reads as it did. -/
def fnExactSmallStepUptoRow : OpenClaim := { program := "ytjpillccpnjdiaa", sum := "23bc7ec9a4f397c63eb983f47a6d29caf4b278925efead756fcf627f17af2107", func := "loop.example/g01324/laws.FnExactSmallStep", spec := "fnExactSmallStep", apart := false, narrowed := true }
def FnExactSmallStepUptoSaid : Prop := fnExactSmallStepUptoRow.holds Try.pinned (OpenSpec.upto fnExactSmallStepSpec)

/-- 'laws.FnExactStringOf', WHERE WHAT IT READS IS OF BULK AT MOST 1048576: true; the input reads as it did. -/
def fnExactStringOfUptoRow : OpenClaim := { program := "ytjpillccpnjdiaa", sum := "23bc7ec9a4f397c63eb983f47a6d29caf4b278925efead756fcf627f17af2107", func := "loop.example/g01324/laws.FnExactStringOf", spec := "fnExactStringOf", apart := false, narrowed := true }
def FnExactStringOfUptoSaid : Prop := fnExactStringOfUptoRow.holds Try.pinned (OpenSpec.upto fnExactStringOfSpec)

/-- 'laws.FnExactStringsOf', WHERE WHAT IT READS IS OF BULK AT MOST 1048576: true; the input reads as it did. -/
def fnExactStringsOfUptoRow : OpenClaim := { program := "ytjpillccpnjdiaa", sum := "23bc7ec9a4f397c63eb983f47a6d29caf4b278925efead756fcf627f17af2107", func := "loop.example/g01324/laws.FnExactStringsOf", spec := "fnExactStringsOf", apart := false, narrowed := true }
def FnExactStringsOfUptoSaid : Prop := fnExactStringsOfUptoRow.holds Try.pinned (OpenSpec.upto fnExactStringsOfSpec)

/-- 'laws.FnExactStarsOf', WHERE WHAT IT READS IS OF BULK AT MOST 1048576: true; the input reads as it did. -/
def fnExactStarsOfUptoRow : OpenClaim := { program := "ytjpillccpnjdiaa", sum := "23bc7ec9a4f397c63eb983f47a6d29caf4b278925efead756fcf627f17af2107", func := "loop.example/g01324/laws.FnExactStarsOf", spec := "fnExactStarsOf", apart := false, narrowed := true }
def FnExactStarsOfUptoSaid : Prop := fnExactStarsOfUptoRow.holds Try.pinned (OpenSpec.upto fnExactStarsOfSpec)

/-- 'laws.FnExactOneString', WHERE WHAT IT READS IS OF BULK AT MOST 1048576: true; the input reads as it did. -/
def fnExactOneStringUptoRow : OpenClaim := { program := "ytjpillccpnjdiaa", sum := "23bc7ec9a4f397c63eb983f47a6d29caf4b278925efead756fcf627f17af2107", func := "loop.example/g01324/laws.FnExactOneString", spec := "fnExactOneString", apart := false, narrowed := true }
def FnExactOneStringUptoSaid : Prop := fnExactOneStringUptoRow.holds Try.pinned (OpenSpec.upto fnExactOneStringSpec)

/-- 'laws.FnExactStepsBetween', WHERE WHAT IT READS IS OF BULK AT MOST 1048576: true; the input reads as it did. -/
def fnExactStepsBetweenUptoRow : OpenClaim := { program := "ytjpillccpnjdiaa", sum := "23bc7ec9a4f397c63eb983f47a6d29caf4b278925efead756fcf627f17af2107", func := "loop.example/g01324/laws.FnExactStepsBetween", spec := "fnExactStepsBetween", apart := false, narrowed := true }
def FnExactStepsBetweenUptoSaid : Prop := fnExactStepsBetweenUptoRow.holds Try.pinned (OpenSpec.upto fnExactStepsBetweenSpec)

/-- 'laws.FnExactStepTo', WHERE WHAT IT READS IS OF BULK AT MOST 1048576: true; the input reads as it did. -/
def fnExactStepToUptoRow : OpenClaim := { program := "ytjpillccpnjdiaa", sum := "23bc7ec9a4f397c63eb983f47a6d29caf4b278925efead756fcf627f17af2107", func := "loop.example/g01324/laws.FnExactStepTo", spec := "fnExactStepTo", apart := false, narrowed := true }
def FnExactStepToUptoSaid : Prop := fnExactStepToUptoRow.holds Try.pinned (OpenSpec.upto fnExactStepToSpec)

end Rows
end Go.Proofs.Ytjpillccpnjdiaa
