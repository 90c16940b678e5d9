/-
  No cell of these rows narrows 'for every input' (looked for: loops, veiled, ifaces, maps, wideKeys, modest, calm, conditions, laid).
  DERIVED. THE GIVEN ROWS OF THIS SEAT. 12 by the template 'for every input the law returns true; each argument reads behind the call as it read before'; 0 by the template 'total and deterministic' (their statements: YtpcebcgmbngabaaTotals.lean).
  GIVEN WITH THE SEED: the statements are not yours to turn. If you find one false, say at which input.
  Laid BY PROGRAM, IN A SANDBOX (cutbox-rows.mjs): the forced cells as the released guide's own fill.sh prints them over the translation af56fbc396e1f5e8… (all of the seat's roots in one cut). By AI agents, Wed Nov 11 2026. No macro, syntax, notation, axiom, sorry.
-/
import Derived.Test.YtpcebcgmbngabaaChecked
import GoSem.Claim
import GoSem.ClaimJoined
import GoSem.ClaimMapViews
import Derived.JoinedTies
import Derived.KernelRfl
namespace Go.Proofs.Ytpcebcgmbngabaa
/- THE CELL 'sum', in the pinned program and in every row, IS THE sha256 OF THE DUMP (.gsa) THAT YtpcebcgmbngabaaProg.lean LOADS. Nothing in Lean hashes anything: it is a label: what it is worth is what the hold of that sum in a sandbox is worth. -/
noncomputable def Try.pinned : Pinned := { name := "ytpcebcgmbngabaa", sum := "af56fbc396e1f5e8aa7d55bebffe0bf7818894b9f56d9bca1dd7e716c6f5dec3", checked := Try.checked }
namespace Rows
def none {H : Type} : Left H := { results := [], args := [] }

/-- 'laws.FnExactIsLoop': WHATEVER THE INPUT: true; the input reads as it did. -/
def fnExactIsLoopSpec : ChangeSpec := { name := "fnExactIsLoop", fn := fun _ => fun
  | [d] => { results := [.lit (.bool true)], args := [d] }
  | _ => none }
def fnExactIsLoopRow : OpenClaim := { program := "ytpcebcgmbngabaa", sum := "af56fbc396e1f5e8aa7d55bebffe0bf7818894b9f56d9bca1dd7e716c6f5dec3", func := "loop.example/g01324/laws.FnExactIsLoop", spec := "fnExactIsLoop", apart := false }
def FnExactIsLoopSaid : Prop := fnExactIsLoopRow.holds Try.pinned (OpenSpec.ofChange fnExactIsLoopSpec)

/-- ITS FALSE NEIGHBOUR: 'it returns false'. Refute it at one input. -/
def fnExactIsLoopWrong : ChangeSpec := { name := "fnExactIsLoop", fn := fun _ => fun
  | [d] => { results := [.lit (.bool false)], args := [d] }
  | _ => none }
def FnExactIsLoopWrongFalsely : Prop := fnExactIsLoopRow.holds Try.pinned (OpenSpec.ofChange fnExactIsLoopWrong)

/-- 'laws.FnExactCountLoopCrossings': WHATEVER THE INPUT: true; the input reads as it did. -/
def fnExactCountLoopCrossingsSpec : ChangeSpec := { name := "fnExactCountLoopCrossings", fn := fun _ => fun
  | [d] => { results := [.lit (.bool true)], args := [d] }
  | _ => none }
def fnExactCountLoopCrossingsRow : OpenClaim := { program := "ytpcebcgmbngabaa", sum := "af56fbc396e1f5e8aa7d55bebffe0bf7818894b9f56d9bca1dd7e716c6f5dec3", func := "loop.example/g01324/laws.FnExactCountLoopCrossings", spec := "fnExactCountLoopCrossings", unfollowed := true, recurses := true, apart := false }
def FnExactCountLoopCrossingsSaid : Prop := fnExactCountLoopCrossingsRow.holds Try.pinned (OpenSpec.ofChange fnExactCountLoopCrossingsSpec)

/-- ITS FALSE NEIGHBOUR: 'it returns false'. Refute it at one input. -/
def fnExactCountLoopCrossingsWrong : ChangeSpec := { name := "fnExactCountLoopCrossings", fn := fun _ => fun
  | [d] => { results := [.lit (.bool false)], args := [d] }
  | _ => none }
def FnExactCountLoopCrossingsWrongFalsely : Prop := fnExactCountLoopCrossingsRow.holds Try.pinned (OpenSpec.ofChange fnExactCountLoopCrossingsWrong)

/-- 'laws.FnExactAreInterlaced': WHATEVER THE INPUT: true; the input reads as it did. -/
def fnExactAreInterlacedSpec : ChangeSpec := { name := "fnExactAreInterlaced", fn := fun _ => fun
  | [d1, d2, d3] => { results := [.lit (.bool true)], args := [d1, d2, d3] }
  | _ => none }
def fnExactAreInterlacedRow : OpenClaim := { program := "ytpcebcgmbngabaa", sum := "af56fbc396e1f5e8aa7d55bebffe0bf7818894b9f56d9bca1dd7e716c6f5dec3", func := "loop.example/g01324/laws.FnExactAreInterlaced", spec := "fnExactAreInterlaced", apart := false }
def FnExactAreInterlacedSaid : Prop := fnExactAreInterlacedRow.holds Try.pinned (OpenSpec.ofChange fnExactAreInterlacedSpec)

/-- ITS FALSE NEIGHBOUR: 'it returns false'. Refute it at one input. -/
def fnExactAreInterlacedWrong : ChangeSpec := { name := "fnExactAreInterlaced", fn := fun _ => fun
  | [d1, d2, d3] => { results := [.lit (.bool false)], args := [d1, d2, d3] }
  | _ => none }
def FnExactAreInterlacedWrongFalsely : Prop := fnExactAreInterlacedRow.holds Try.pinned (OpenSpec.ofChange fnExactAreInterlacedWrong)

/-- 'laws.FnExactInterlacedWith': WHATEVER THE INPUT: true; the input reads as it did. -/
def fnExactInterlacedWithSpec : ChangeSpec := { name := "fnExactInterlacedWith", fn := fun _ => fun
  | [d1, d2] => { results := [.lit (.bool true)], args := [d1, d2] }
  | _ => none }
def fnExactInterlacedWithRow : OpenClaim := { program := "ytpcebcgmbngabaa", sum := "af56fbc396e1f5e8aa7d55bebffe0bf7818894b9f56d9bca1dd7e716c6f5dec3", func := "loop.example/g01324/laws.FnExactInterlacedWith", spec := "fnExactInterlacedWith", unfollowed := true, recurses := true, apart := false }
def FnExactInterlacedWithSaid : Prop := fnExactInterlacedWithRow.holds Try.pinned (OpenSpec.ofChange fnExactInterlacedWithSpec)

/-- ITS FALSE NEIGHBOUR: 'it returns false'. Refute it at one input. -/
def fnExactInterlacedWithWrong : ChangeSpec := { name := "fnExactInterlacedWith", fn := fun _ => fun
  | [d1, d2] => { results := [.lit (.bool false)], args := [d1, d2] }
  | _ => none }
def FnExactInterlacedWithWrongFalsely : Prop := fnExactInterlacedWithRow.holds Try.pinned (OpenSpec.ofChange fnExactInterlacedWithWrong)

/-- 'laws.FnExactIsEvenLoop': WHATEVER THE INPUT: true; the input reads as it did. -/
def fnExactIsEvenLoopSpec : ChangeSpec := { name := "fnExactIsEvenLoop", fn := fun _ => fun
  | [d] => { results := [.lit (.bool true)], args := [d] }
  | _ => none }
def fnExactIsEvenLoopRow : OpenClaim := { program := "ytpcebcgmbngabaa", sum := "af56fbc396e1f5e8aa7d55bebffe0bf7818894b9f56d9bca1dd7e716c6f5dec3", func := "loop.example/g01324/laws.FnExactIsEvenLoop", spec := "fnExactIsEvenLoop", unfollowed := true, recurses := true, apart := false }
def FnExactIsEvenLoopSaid : Prop := fnExactIsEvenLoopRow.holds Try.pinned (OpenSpec.ofChange fnExactIsEvenLoopSpec)

/-- ITS FALSE NEIGHBOUR: 'it returns false'. Refute it at one input. -/
def fnExactIsEvenLoopWrong : ChangeSpec := { name := "fnExactIsEvenLoop", fn := fun _ => fun
  | [d] => { results := [.lit (.bool false)], args := [d] }
  | _ => none }
def FnExactIsEvenLoopWrongFalsely : Prop := fnExactIsEvenLoopRow.holds Try.pinned (OpenSpec.ofChange fnExactIsEvenLoopWrong)

/-- 'laws.FnExactCanBeDrawn': WHATEVER THE INPUT: true; the input reads as it did. -/
def fnExactCanBeDrawnSpec : ChangeSpec := { name := "fnExactCanBeDrawn", fn := fun _ => fun
  | [d] => { results := [.lit (.bool true)], args := [d] }
  | _ => none }
def fnExactCanBeDrawnRow : OpenClaim := { program := "ytpcebcgmbngabaa", sum := "af56fbc396e1f5e8aa7d55bebffe0bf7818894b9f56d9bca1dd7e716c6f5dec3", func := "loop.example/g01324/laws.FnExactCanBeDrawn", spec := "fnExactCanBeDrawn", unfollowed := true, recurses := true, apart := false }
def FnExactCanBeDrawnSaid : Prop := fnExactCanBeDrawnRow.holds Try.pinned (OpenSpec.ofChange fnExactCanBeDrawnSpec)

/-- ITS FALSE NEIGHBOUR: 'it returns false'. Refute it at one input. -/
def fnExactCanBeDrawnWrong : ChangeSpec := { name := "fnExactCanBeDrawn", fn := fun _ => fun
  | [d] => { results := [.lit (.bool false)], args := [d] }
  | _ => none }
def FnExactCanBeDrawnWrongFalsely : Prop := fnExactCanBeDrawnRow.holds Try.pinned (OpenSpec.ofChange fnExactCanBeDrawnWrong)

/-- 'laws.FnExactTurnLoop': WHATEVER THE INPUT: true; the input reads as it did. -/
def fnExactTurnLoopSpec : ChangeSpec := { name := "fnExactTurnLoop", fn := fun _ => fun
  | [d1, d2] => { results := [.lit (.bool true)], args := [d1, d2] }
  | _ => none }
def fnExactTurnLoopRow : OpenClaim := { program := "ytpcebcgmbngabaa", sum := "af56fbc396e1f5e8aa7d55bebffe0bf7818894b9f56d9bca1dd7e716c6f5dec3", func := "loop.example/g01324/laws.FnExactTurnLoop", spec := "fnExactTurnLoop", apart := false }
def FnExactTurnLoopSaid : Prop := fnExactTurnLoopRow.holds Try.pinned (OpenSpec.ofChange fnExactTurnLoopSpec)

/-- ITS FALSE NEIGHBOUR: 'it returns false'. Refute it at one input. -/
def fnExactTurnLoopWrong : ChangeSpec := { name := "fnExactTurnLoop", fn := fun _ => fun
  | [d1, d2] => { results := [.lit (.bool false)], args := [d1, d2] }
  | _ => none }
def FnExactTurnLoopWrongFalsely : Prop := fnExactTurnLoopRow.holds Try.pinned (OpenSpec.ofChange fnExactTurnLoopWrong)

/-- 'laws.FnExactBackLoop': WHATEVER THE INPUT: true; the input reads as it did. -/
def fnExactBackLoopSpec : ChangeSpec := { name := "fnExactBackLoop", fn := fun _ => fun
  | [d] => { results := [.lit (.bool true)], args := [d] }
  | _ => none }
def fnExactBackLoopRow : OpenClaim := { program := "ytpcebcgmbngabaa", sum := "af56fbc396e1f5e8aa7d55bebffe0bf7818894b9f56d9bca1dd7e716c6f5dec3", func := "loop.example/g01324/laws.FnExactBackLoop", spec := "fnExactBackLoop", unfollowed := true, recurses := true, apart := false }
def FnExactBackLoopSaid : Prop := fnExactBackLoopRow.holds Try.pinned (OpenSpec.ofChange fnExactBackLoopSpec)

/-- ITS FALSE NEIGHBOUR: 'it returns false'. Refute it at one input. -/
def fnExactBackLoopWrong : ChangeSpec := { name := "fnExactBackLoop", fn := fun _ => fun
  | [d] => { results := [.lit (.bool false)], args := [d] }
  | _ => none }
def FnExactBackLoopWrongFalsely : Prop := fnExactBackLoopRow.holds Try.pinned (OpenSpec.ofChange fnExactBackLoopWrong)

/-- 'laws.FnExactFirstLoop': WHATEVER THE INPUT: true; the input reads as it did. -/
def fnExactFirstLoopSpec : ChangeSpec := { name := "fnExactFirstLoop", fn := fun _ => fun
  | [d] => { results := [.lit (.bool true)], args := [d] }
  | _ => none }
def fnExactFirstLoopRow : OpenClaim := { program := "ytpcebcgmbngabaa", sum := "af56fbc396e1f5e8aa7d55bebffe0bf7818894b9f56d9bca1dd7e716c6f5dec3", func := "loop.example/g01324/laws.FnExactFirstLoop", spec := "fnExactFirstLoop", unfollowed := true, recurses := true, apart := false }
def FnExactFirstLoopSaid : Prop := fnExactFirstLoopRow.holds Try.pinned (OpenSpec.ofChange fnExactFirstLoopSpec)

/-- ITS FALSE NEIGHBOUR: 'it returns false'. Refute it at one input. -/
def fnExactFirstLoopWrong : ChangeSpec := { name := "fnExactFirstLoop", fn := fun _ => fun
  | [d] => { results := [.lit (.bool false)], args := [d] }
  | _ => none }
def FnExactFirstLoopWrongFalsely : Prop := fnExactFirstLoopRow.holds Try.pinned (OpenSpec.ofChange fnExactFirstLoopWrong)

/-- 'laws.FnExactSameLoops': WHATEVER THE INPUT: true; the input reads as it did. -/
def fnExactSameLoopsSpec : ChangeSpec := { name := "fnExactSameLoops", fn := fun _ => fun
  | [d1, d2] => { results := [.lit (.bool true)], args := [d1, d2] }
  | _ => none }
def fnExactSameLoopsRow : OpenClaim := { program := "ytpcebcgmbngabaa", sum := "af56fbc396e1f5e8aa7d55bebffe0bf7818894b9f56d9bca1dd7e716c6f5dec3", func := "loop.example/g01324/laws.FnExactSameLoops", spec := "fnExactSameLoops", unfollowed := true, recurses := true, apart := false }
def FnExactSameLoopsSaid : Prop := fnExactSameLoopsRow.holds Try.pinned (OpenSpec.ofChange fnExactSameLoopsSpec)

/-- ITS FALSE NEIGHBOUR: 'it returns false'. Refute it at one input. -/
def fnExactSameLoopsWrong : ChangeSpec := { name := "fnExactSameLoops", fn := fun _ => fun
  | [d1, d2] => { results := [.lit (.bool false)], args := [d1, d2] }
  | _ => none }
def FnExactSameLoopsWrongFalsely : Prop := fnExactSameLoopsRow.holds Try.pinned (OpenSpec.ofChange fnExactSameLoopsWrong)

/-- 'laws.FnExactCurlsOf': WHATEVER THE INPUT: true; the input reads as it did. -/
def fnExactCurlsOfSpec : ChangeSpec := { name := "fnExactCurlsOf", fn := fun _ => fun
  | [d] => { results := [.lit (.bool true)], args := [d] }
  | _ => none }
def fnExactCurlsOfRow : OpenClaim := { program := "ytpcebcgmbngabaa", sum := "af56fbc396e1f5e8aa7d55bebffe0bf7818894b9f56d9bca1dd7e716c6f5dec3", func := "loop.example/g01324/laws.FnExactCurlsOf", spec := "fnExactCurlsOf", unfollowed := true, recurses := true, apart := false }
def FnExactCurlsOfSaid : Prop := fnExactCurlsOfRow.holds Try.pinned (OpenSpec.ofChange fnExactCurlsOfSpec)

/-- ITS FALSE NEIGHBOUR: 'it returns false'. Refute it at one input. -/
def fnExactCurlsOfWrong : ChangeSpec := { name := "fnExactCurlsOf", fn := fun _ => fun
  | [d] => { results := [.lit (.bool false)], args := [d] }
  | _ => none }
def FnExactCurlsOfWrongFalsely : Prop := fnExactCurlsOfRow.holds Try.pinned (OpenSpec.ofChange fnExactCurlsOfWrong)

/-- 'laws.FnExactIsOneLoop': WHATEVER THE INPUT: true; the input reads as it did. -/
def fnExactIsOneLoopSpec : ChangeSpec := { name := "fnExactIsOneLoop", fn := fun _ => fun
  | [d] => { results := [.lit (.bool true)], args := [d] }
  | _ => none }
def fnExactIsOneLoopRow : OpenClaim := { program := "ytpcebcgmbngabaa", sum := "af56fbc396e1f5e8aa7d55bebffe0bf7818894b9f56d9bca1dd7e716c6f5dec3", func := "loop.example/g01324/laws.FnExactIsOneLoop", spec := "fnExactIsOneLoop", unfollowed := true, recurses := true, apart := false }
def FnExactIsOneLoopSaid : Prop := fnExactIsOneLoopRow.holds Try.pinned (OpenSpec.ofChange fnExactIsOneLoopSpec)

/-- ITS FALSE NEIGHBOUR: 'it returns false'. Refute it at one input. -/
def fnExactIsOneLoopWrong : ChangeSpec := { name := "fnExactIsOneLoop", fn := fun _ => fun
  | [d] => { results := [.lit (.bool false)], args := [d] }
  | _ => none }
def FnExactIsOneLoopWrongFalsely : Prop := fnExactIsOneLoopRow.holds Try.pinned (OpenSpec.ofChange fnExactIsOneLoopWrong)

/- THE SECOND FORM. 'bulk': how many values and letters a reading holds, each counted each time it is reached (what is shared counts as often as it is met; a slice's spare places count too). A statement '..UptoSaid' is the law's where the arguments, and the package variables that the reading takes, are together of bulk at most 1048576: NARROWER than '..Said'. Prove '..Said' where nothing that the law and all that it calls make is longer than what came in: it says more and counts as full. Else prove '..UptoSaid'. A law counts once. -/
mutual
def uptoBulk {H : Type} : DataW H → Nat
  | .lit (.string bytes) => bytes.length + 1
  | .lit _ => 1
  | .nil => 1
  | .ptr d => uptoBulk d + 1
  | .slice elems spare => uptoBulkAll elems + uptoBulkAll spare + 1
  | .agg parts => uptoBulkAll parts + 1
  | .iface _ d => uptoBulk d + 1
  | .map entries => uptoBulkEntries entries + 1
  | .held _ => 1
def uptoBulkAll {H : Type} : List (DataW H) → Nat
  | [] => 0
  | d :: r => uptoBulk d + uptoBulkAll r
def uptoBulkEntries {H : Type} : List (Lit × DataW H) → Nat
  | [] => 0
  | x :: r => uptoBulkEntry x + uptoBulkEntries r
def uptoBulkEntry {H : Type} : Lit × DataW H → Nat
  | (.string bytes, d) => bytes.length + uptoBulk d + 1
  | (_, d) => uptoBulk d + 1
 end
def uptoSmall : (H : Type) → List (DataW H) → Bool := fun _ ds => decide (uptoBulkAll ds ≤ 1048576)
def OpenSpec.upto (s : _root_.Go.ChangeSpec) : _root_.Go.OpenSpec := { _root_.Go.OpenSpec.ofChange s with cond := some uptoSmall }

/-- 'laws.FnExactIsLoop', WHERE WHAT IT READS IS OF BULK AT MOST 1048576: true; the input reads as it did. -/
def fnExactIsLoopUptoRow : OpenClaim := { program := "ytpcebcgmbngabaa", sum := "af56fbc396e1f5e8aa7d55bebffe0bf7818894b9f56d9bca1dd7e716c6f5dec3", func := "loop.example/g01324/laws.FnExactIsLoop", spec := "fnExactIsLoop", apart := false, narrowed := true }
def FnExactIsLoopUptoSaid : Prop := fnExactIsLoopUptoRow.holds Try.pinned (OpenSpec.upto fnExactIsLoopSpec)

/-- 'laws.FnExactCountLoopCrossings', WHERE WHAT IT READS IS OF BULK AT MOST 1048576: true; the input reads as it did. -/
def fnExactCountLoopCrossingsUptoRow : OpenClaim := { program := "ytpcebcgmbngabaa", sum := "af56fbc396e1f5e8aa7d55bebffe0bf7818894b9f56d9bca1dd7e716c6f5dec3", func := "loop.example/g01324/laws.FnExactCountLoopCrossings", spec := "fnExactCountLoopCrossings", unfollowed := true, recurses := true, apart := false, narrowed := true }
def FnExactCountLoopCrossingsUptoSaid : Prop := fnExactCountLoopCrossingsUptoRow.holds Try.pinned (OpenSpec.upto fnExactCountLoopCrossingsSpec)

/-- 'laws.FnExactAreInterlaced', WHERE WHAT IT READS IS OF BULK AT MOST 1048576: true; the input reads as it did. -/
def fnExactAreInterlacedUptoRow : OpenClaim := { program := "ytpcebcgmbngabaa", sum := "af56fbc396e1f5e8aa7d55bebffe0bf7818894b9f56d9bca1dd7e716c6f5dec3", func := "loop.example/g01324/laws.FnExactAreInterlaced", spec := "fnExactAreInterlaced", apart := false, narrowed := true }
def FnExactAreInterlacedUptoSaid : Prop := fnExactAreInterlacedUptoRow.holds Try.pinned (OpenSpec.upto fnExactAreInterlacedSpec)

/-- 'laws.FnExactInterlacedWith', WHERE WHAT IT READS IS OF BULK AT MOST 1048576: true; the input reads as it did. -/
def fnExactInterlacedWithUptoRow : OpenClaim := { program := "ytpcebcgmbngabaa", sum := "af56fbc396e1f5e8aa7d55bebffe0bf7818894b9f56d9bca1dd7e716c6f5dec3", func := "loop.example/g01324/laws.FnExactInterlacedWith", spec := "fnExactInterlacedWith", unfollowed := true, recurses := true, apart := false, narrowed := true }
def FnExactInterlacedWithUptoSaid : Prop := fnExactInterlacedWithUptoRow.holds Try.pinned (OpenSpec.upto fnExactInterlacedWithSpec)

/-- 'laws.FnExactIsEvenLoop', WHERE WHAT IT READS IS OF BULK AT MOST 1048576: true; the input reads as it did. -/
def fnExactIsEvenLoopUptoRow : OpenClaim := { program := "ytpcebcgmbngabaa", sum := "af56fbc396e1f5e8aa7d55bebffe0bf7818894b9f56d9bca1dd7e716c6f5dec3", func := "loop.example/g01324/laws.FnExactIsEvenLoop", spec := "fnExactIsEvenLoop", unfollowed := true, recurses := true, apart := false, narrowed := true }
def FnExactIsEvenLoopUptoSaid : Prop := fnExactIsEvenLoopUptoRow.holds Try.pinned (OpenSpec.upto fnExactIsEvenLoopSpec)

/-- 'laws.FnExactCanBeDrawn', WHERE WHAT IT READS IS OF BULK AT MOST 1048576: true; the input reads as it did. -/
def fnExactCanBeDrawnUptoRow : OpenClaim := { program := "ytpcebcgmbngabaa", sum := "af56fbc396e1f5e8aa7d55bebffe0bf7818894b9f56d9bca1dd7e716c6f5dec3", func := "loop.example/g01324/laws.FnExactCanBeDrawn", spec := "fnExactCanBeDrawn", unfollowed := true, recurses := true, apart := false, narrowed := true }
def FnExactCanBeDrawnUptoSaid : Prop := fnExactCanBeDrawnUptoRow.holds Try.pinned (OpenSpec.upto fnExactCanBeDrawnSpec)

/-- 'laws.FnExactTurnLoop', WHERE WHAT IT READS IS OF BULK AT MOST 1048576: true; the input reads as it did. -/
def fnExactTurnLoopUptoRow : OpenClaim := { program := "ytpcebcgmbngabaa", sum := "af56fbc396e1f5e8aa7d55bebffe0bf7818894b9f56d9bca1dd7e716c6f5dec3", func := "loop.example/g01324/laws.FnExactTurnLoop", spec := "fnExactTurnLoop", apart := false, narrowed := true }
def FnExactTurnLoopUptoSaid : Prop := fnExactTurnLoopUptoRow.holds Try.pinned (OpenSpec.upto fnExactTurnLoopSpec)

/-- 'laws.FnExactBackLoop', WHERE WHAT IT READS IS OF BULK AT MOST 1048576: true; the input reads as it did. -/
def fnExactBackLoopUptoRow : OpenClaim := { program := "ytpcebcgmbngabaa", sum := "af56fbc396e1f5e8aa7d55bebffe0bf7818894b9f56d9bca1dd7e716c6f5dec3", func := "loop.example/g01324/laws.FnExactBackLoop", spec := "fnExactBackLoop", unfollowed := true, recurses := true, apart := false, narrowed := true }
def FnExactBackLoopUptoSaid : Prop := fnExactBackLoopUptoRow.holds Try.pinned (OpenSpec.upto fnExactBackLoopSpec)

/-- 'laws.FnExactFirstLoop', WHERE WHAT IT READS IS OF BULK AT MOST 1048576: true; the input reads as it did. -/
def fnExactFirstLoopUptoRow : OpenClaim := { program := "ytpcebcgmbngabaa", sum := "af56fbc396e1f5e8aa7d55bebffe0bf7818894b9f56d9bca1dd7e716c6f5dec3", func := "loop.example/g01324/laws.FnExactFirstLoop", spec := "fnExactFirstLoop", unfollowed := true, recurses := true, apart := false, narrowed := true }
def FnExactFirstLoopUptoSaid : Prop := fnExactFirstLoopUptoRow.holds Try.pinned (OpenSpec.upto fnExactFirstLoopSpec)

/-- 'laws.FnExactSameLoops', WHERE WHAT IT READS IS OF BULK AT MOST 1048576: true; the input reads as it did. -/
def fnExactSameLoopsUptoRow : OpenClaim := { program := "ytpcebcgmbngabaa", sum := "af56fbc396e1f5e8aa7d55bebffe0bf7818894b9f56d9bca1dd7e716c6f5dec3", func := "loop.example/g01324/laws.FnExactSameLoops", spec := "fnExactSameLoops", unfollowed := true, recurses := true, apart := false, narrowed := true }
def FnExactSameLoopsUptoSaid : Prop := fnExactSameLoopsUptoRow.holds Try.pinned (OpenSpec.upto fnExactSameLoopsSpec)

/-- 'laws.FnExactCurlsOf', WHERE WHAT IT READS IS OF BULK AT MOST 1048576: true; the input reads as it did. -/
def fnExactCurlsOfUptoRow : OpenClaim := { program := "ytpcebcgmbngabaa", sum := "af56fbc396e1f5e8aa7d55bebffe0bf7818894b9f56d9bca1dd7e716c6f5dec3", func := "loop.example/g01324/laws.FnExactCurlsOf", spec := "fnExactCurlsOf", unfollowed := true, recurses := true, apart := false, narrowed := true }
def FnExactCurlsOfUptoSaid : Prop := fnExactCurlsOfUptoRow.holds Try.pinned (OpenSpec.upto fnExactCurlsOfSpec)

/-- 'laws.FnExactIsOneLoop', WHERE WHAT IT READS IS OF BULK AT MOST 1048576: true; the input reads as it did. -/
def fnExactIsOneLoopUptoRow : OpenClaim := { program := "ytpcebcgmbngabaa", sum := "af56fbc396e1f5e8aa7d55bebffe0bf7818894b9f56d9bca1dd7e716c6f5dec3", func := "loop.example/g01324/laws.FnExactIsOneLoop", spec := "fnExactIsOneLoop", unfollowed := true, recurses := true, apart := false, narrowed := true }
def FnExactIsOneLoopUptoSaid : Prop := fnExactIsOneLoopUptoRow.holds Try.pinned (OpenSpec.upto fnExactIsOneLoopSpec)

end Rows
end Go.Proofs.Ytpcebcgmbngabaa
