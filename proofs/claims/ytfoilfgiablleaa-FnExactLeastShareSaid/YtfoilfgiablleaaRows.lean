/-
  No cell of these rows narrows 'for every input' (looked for: loops, veiled, ifaces, maps, wideKeys, modest, calm, conditions, laid).
  DERIVED. THE GIVEN ROWS OF THIS SEAT. 12 by the template 'for every input the law returns true; each argument reads behind the call as it read before'; 0 by the template 'total and deterministic' (their statements: YtfoilfgiablleaaTotals.lean).
  GIVEN WITH THE SEED: the statements are not yours to turn. If you find one false, say at which input.
  Laid BY PROGRAM, IN A SANDBOX (cutbox-rows.mjs): the forced cells as the released guide's own fill.sh prints them over the translation 23413288de4ab4a2… (all of the seat's roots in one cut). By AI agents, Wed Nov 11 2026. No macro, syntax, notation, axiom, sorry.
-/
import Derived.Test.YtfoilfgiablleaaChecked
import GoSem.Claim
import GoSem.ClaimJoined
import GoSem.ClaimMapViews
import Derived.JoinedTies
import Derived.KernelRfl
namespace Go.Proofs.Ytfoilfgiablleaa
/- THE CELL 'sum', in the pinned program and in every row, IS THE sha256 OF THE DUMP (.gsa) THAT YtfoilfgiablleaaProg.lean LOADS. Nothing in Lean hashes anything: it is a label: what it is worth is what the hold of that sum in a sandbox is worth. -/
noncomputable def Try.pinned : Pinned := { name := "ytfoilfgiablleaa", sum := "23413288de4ab4a2b57fd2b8efa7e65980b53b9e1f6a5b8e92a68ff3224d10f0", checked := Try.checked }
namespace Rows
def none {H : Type} : Left H := { results := [], args := [] }

/-- 'laws.FnTransferred': WHATEVER THE INPUT: true; the input reads as it did. -/
def fnTransferredSpec : ChangeSpec := { name := "fnTransferred", fn := fun _ => fun
  | [d] => { results := [.lit (.bool true)], args := [d] }
  | _ => none }
def fnTransferredRow : OpenClaim := { program := "ytfoilfgiablleaa", sum := "23413288de4ab4a2b57fd2b8efa7e65980b53b9e1f6a5b8e92a68ff3224d10f0", func := "loop.example/g00982/laws.FnTransferred", spec := "fnTransferred", inPlace := ["slices.overlaps[loop.example/g00982/impl.Id]"], unfollowed := true, recurses := true, apart := false }
def FnTransferredSaid : Prop := fnTransferredRow.holds Try.pinned (OpenSpec.ofChange fnTransferredSpec)

/-- ITS FALSE NEIGHBOUR: 'it returns false'. Refute it at one input. -/
def fnTransferredWrong : ChangeSpec := { name := "fnTransferred", fn := fun _ => fun
  | [d] => { results := [.lit (.bool false)], args := [d] }
  | _ => none }
def FnTransferredWrongFalsely : Prop := fnTransferredRow.holds Try.pinned (OpenSpec.ofChange fnTransferredWrong)

/-- 'laws.FnUndone': WHATEVER THE INPUT: true; the input reads as it did. -/
def fnUndoneSpec : ChangeSpec := { name := "fnUndone", fn := fun _ => fun
  | [d] => { results := [.lit (.bool true)], args := [d] }
  | _ => none }
def fnUndoneRow : OpenClaim := { program := "ytfoilfgiablleaa", sum := "23413288de4ab4a2b57fd2b8efa7e65980b53b9e1f6a5b8e92a68ff3224d10f0", func := "loop.example/g00982/laws.FnUndone", spec := "fnUndone", inPlace := ["slices.overlaps[loop.example/g00982/impl.Id]"], unfollowed := true, recurses := true, apart := false }
def FnUndoneSaid : Prop := fnUndoneRow.holds Try.pinned (OpenSpec.ofChange fnUndoneSpec)

/-- ITS FALSE NEIGHBOUR: 'it returns false'. Refute it at one input. -/
def fnUndoneWrong : ChangeSpec := { name := "fnUndone", fn := fun _ => fun
  | [d] => { results := [.lit (.bool false)], args := [d] }
  | _ => none }
def FnUndoneWrongFalsely : Prop := fnUndoneRow.holds Try.pinned (OpenSpec.ofChange fnUndoneWrong)

/-- 'laws.FnSharesKept': WHATEVER THE INPUT: true; the input reads as it did. -/
def fnSharesKeptSpec : ChangeSpec := { name := "fnSharesKept", fn := fun _ => fun
  | [d] => { results := [.lit (.bool true)], args := [d] }
  | _ => none }
def fnSharesKeptRow : OpenClaim := { program := "ytfoilfgiablleaa", sum := "23413288de4ab4a2b57fd2b8efa7e65980b53b9e1f6a5b8e92a68ff3224d10f0", func := "loop.example/g00982/laws.FnSharesKept", spec := "fnSharesKept", unfollowed := true, recurses := true, apart := false }
def FnSharesKeptSaid : Prop := fnSharesKeptRow.holds Try.pinned (OpenSpec.ofChange fnSharesKeptSpec)

/-- ITS FALSE NEIGHBOUR: 'it returns false'. Refute it at one input. -/
def fnSharesKeptWrong : ChangeSpec := { name := "fnSharesKept", fn := fun _ => fun
  | [d] => { results := [.lit (.bool false)], args := [d] }
  | _ => none }
def FnSharesKeptWrongFalsely : Prop := fnSharesKeptRow.holds Try.pinned (OpenSpec.ofChange fnSharesKeptWrong)

/-- 'laws.FnCarried': WHATEVER THE INPUT: true; the input reads as it did. -/
def fnCarriedSpec : ChangeSpec := { name := "fnCarried", fn := fun _ => fun
  | [d] => { results := [.lit (.bool true)], args := [d] }
  | _ => none }
def fnCarriedRow : OpenClaim := { program := "ytfoilfgiablleaa", sum := "23413288de4ab4a2b57fd2b8efa7e65980b53b9e1f6a5b8e92a68ff3224d10f0", func := "loop.example/g00982/laws.FnCarried", spec := "fnCarried", unfollowed := true, recurses := true, apart := false }
def FnCarriedSaid : Prop := fnCarriedRow.holds Try.pinned (OpenSpec.ofChange fnCarriedSpec)

/-- ITS FALSE NEIGHBOUR: 'it returns false'. Refute it at one input. -/
def fnCarriedWrong : ChangeSpec := { name := "fnCarried", fn := fun _ => fun
  | [d] => { results := [.lit (.bool false)], args := [d] }
  | _ => none }
def FnCarriedWrongFalsely : Prop := fnCarriedRow.holds Try.pinned (OpenSpec.ofChange fnCarriedWrong)

/-- 'laws.FnExactShareOut': WHATEVER THE INPUT: true; the input reads as it did. -/
def fnExactShareOutSpec : ChangeSpec := { name := "fnExactShareOut", fn := fun _ => fun
  | [d1, d2, d3] => { results := [.lit (.bool true)], args := [d1, d2, d3] }
  | _ => none }
def fnExactShareOutRow : OpenClaim := { program := "ytfoilfgiablleaa", sum := "23413288de4ab4a2b57fd2b8efa7e65980b53b9e1f6a5b8e92a68ff3224d10f0", func := "loop.example/g00982/laws.FnExactShareOut", spec := "fnExactShareOut", unfollowed := true, recurses := true, apart := false }
def FnExactShareOutSaid : Prop := fnExactShareOutRow.holds Try.pinned (OpenSpec.ofChange fnExactShareOutSpec)

/-- ITS FALSE NEIGHBOUR: 'it returns false'. Refute it at one input. -/
def fnExactShareOutWrong : ChangeSpec := { name := "fnExactShareOut", fn := fun _ => fun
  | [d1, d2, d3] => { results := [.lit (.bool false)], args := [d1, d2, d3] }
  | _ => none }
def FnExactShareOutWrongFalsely : Prop := fnExactShareOutRow.holds Try.pinned (OpenSpec.ofChange fnExactShareOutWrong)

/-- 'laws.FnExactRefineState': WHATEVER THE INPUT: true; the input reads as it did. -/
def fnExactRefineStateSpec : ChangeSpec := { name := "fnExactRefineState", fn := fun _ => fun
  | [d1, d2] => { results := [.lit (.bool true)], args := [d1, d2] }
  | _ => none }
def fnExactRefineStateRow : OpenClaim := { program := "ytfoilfgiablleaa", sum := "23413288de4ab4a2b57fd2b8efa7e65980b53b9e1f6a5b8e92a68ff3224d10f0", func := "loop.example/g00982/laws.FnExactRefineState", spec := "fnExactRefineState", inPlace := ["slices.overlaps[loop.example/g00982/impl.Id]"], unfollowed := true, recurses := true, apart := false }
def FnExactRefineStateSaid : Prop := fnExactRefineStateRow.holds Try.pinned (OpenSpec.ofChange fnExactRefineStateSpec)

/-- ITS FALSE NEIGHBOUR: 'it returns false'. Refute it at one input. -/
def fnExactRefineStateWrong : ChangeSpec := { name := "fnExactRefineState", fn := fun _ => fun
  | [d1, d2] => { results := [.lit (.bool false)], args := [d1, d2] }
  | _ => none }
def FnExactRefineStateWrongFalsely : Prop := fnExactRefineStateRow.holds Try.pinned (OpenSpec.ofChange fnExactRefineStateWrong)

/-- 'laws.FnExactBalanceRefine': WHATEVER THE INPUT: true; the input reads as it did. -/
def fnExactBalanceRefineSpec : ChangeSpec := { name := "fnExactBalanceRefine", fn := fun _ => fun
  | [d1, d2] => { results := [.lit (.bool true)], args := [d1, d2] }
  | _ => none }
def fnExactBalanceRefineRow : OpenClaim := { program := "ytfoilfgiablleaa", sum := "23413288de4ab4a2b57fd2b8efa7e65980b53b9e1f6a5b8e92a68ff3224d10f0", func := "loop.example/g00982/laws.FnExactBalanceRefine", spec := "fnExactBalanceRefine", inPlace := ["slices.overlaps[loop.example/g00982/impl.Id]"], unfollowed := true, recurses := true, apart := false }
def FnExactBalanceRefineSaid : Prop := fnExactBalanceRefineRow.holds Try.pinned (OpenSpec.ofChange fnExactBalanceRefineSpec)

/-- ITS FALSE NEIGHBOUR: 'it returns false'. Refute it at one input. -/
def fnExactBalanceRefineWrong : ChangeSpec := { name := "fnExactBalanceRefine", fn := fun _ => fun
  | [d1, d2] => { results := [.lit (.bool false)], args := [d1, d2] }
  | _ => none }
def FnExactBalanceRefineWrongFalsely : Prop := fnExactBalanceRefineRow.holds Try.pinned (OpenSpec.ofChange fnExactBalanceRefineWrong)

/-- 'laws.FnExactLeafOut': WHATEVER THE INPUT: true; the input reads as it did. -/
def fnExactLeafOutSpec : ChangeSpec := { name := "fnExactLeafOut", fn := fun _ => fun
  | [d1, d2, d3, d4] => { results := [.lit (.bool true)], args := [d1, d2, d3, d4] }
  | _ => none }
def fnExactLeafOutRow : OpenClaim := { program := "ytfoilfgiablleaa", sum := "23413288de4ab4a2b57fd2b8efa7e65980b53b9e1f6a5b8e92a68ff3224d10f0", func := "loop.example/g00982/laws.FnExactLeafOut", spec := "fnExactLeafOut", unfollowed := true, recurses := true, apart := false }
def FnExactLeafOutSaid : Prop := fnExactLeafOutRow.holds Try.pinned (OpenSpec.ofChange fnExactLeafOutSpec)

/-- ITS FALSE NEIGHBOUR: 'it returns false'. Refute it at one input. -/
def fnExactLeafOutWrong : ChangeSpec := { name := "fnExactLeafOut", fn := fun _ => fun
  | [d1, d2, d3, d4] => { results := [.lit (.bool false)], args := [d1, d2, d3, d4] }
  | _ => none }
def FnExactLeafOutWrongFalsely : Prop := fnExactLeafOutRow.holds Try.pinned (OpenSpec.ofChange fnExactLeafOutWrong)

/-- 'laws.FnExactTracerFlux': WHATEVER THE INPUT: true; the input reads as it did. -/
def fnExactTracerFluxSpec : ChangeSpec := { name := "fnExactTracerFlux", fn := fun _ => fun
  | [d1, d2] => { results := [.lit (.bool true)], args := [d1, d2] }
  | _ => none }
def fnExactTracerFluxRow : OpenClaim := { program := "ytfoilfgiablleaa", sum := "23413288de4ab4a2b57fd2b8efa7e65980b53b9e1f6a5b8e92a68ff3224d10f0", func := "loop.example/g00982/laws.FnExactTracerFlux", spec := "fnExactTracerFlux", unfollowed := true, recurses := true, apart := false }
def FnExactTracerFluxSaid : Prop := fnExactTracerFluxRow.holds Try.pinned (OpenSpec.ofChange fnExactTracerFluxSpec)

/-- ITS FALSE NEIGHBOUR: 'it returns false'. Refute it at one input. -/
def fnExactTracerFluxWrong : ChangeSpec := { name := "fnExactTracerFlux", fn := fun _ => fun
  | [d1, d2] => { results := [.lit (.bool false)], args := [d1, d2] }
  | _ => none }
def FnExactTracerFluxWrongFalsely : Prop := fnExactTracerFluxRow.holds Try.pinned (OpenSpec.ofChange fnExactTracerFluxWrong)

/-- 'laws.FnExactGreatestShare': WHATEVER THE INPUT: true; the input reads as it did. -/
def fnExactGreatestShareSpec : ChangeSpec := { name := "fnExactGreatestShare", fn := fun _ => fun
  | [d] => { results := [.lit (.bool true)], args := [d] }
  | _ => none }
def fnExactGreatestShareRow : OpenClaim := { program := "ytfoilfgiablleaa", sum := "23413288de4ab4a2b57fd2b8efa7e65980b53b9e1f6a5b8e92a68ff3224d10f0", func := "loop.example/g00982/laws.FnExactGreatestShare", spec := "fnExactGreatestShare", unfollowed := true, recurses := true, apart := false }
def FnExactGreatestShareSaid : Prop := fnExactGreatestShareRow.holds Try.pinned (OpenSpec.ofChange fnExactGreatestShareSpec)

/-- ITS FALSE NEIGHBOUR: 'it returns false'. Refute it at one input. -/
def fnExactGreatestShareWrong : ChangeSpec := { name := "fnExactGreatestShare", fn := fun _ => fun
  | [d] => { results := [.lit (.bool false)], args := [d] }
  | _ => none }
def FnExactGreatestShareWrongFalsely : Prop := fnExactGreatestShareRow.holds Try.pinned (OpenSpec.ofChange fnExactGreatestShareWrong)

/-- 'laws.FnExactLeastShare': WHATEVER THE INPUT: true; the input reads as it did. -/
def fnExactLeastShareSpec : ChangeSpec := { name := "fnExactLeastShare", fn := fun _ => fun
  | [d] => { results := [.lit (.bool true)], args := [d] }
  | _ => none }
def fnExactLeastShareRow : OpenClaim := { program := "ytfoilfgiablleaa", sum := "23413288de4ab4a2b57fd2b8efa7e65980b53b9e1f6a5b8e92a68ff3224d10f0", func := "loop.example/g00982/laws.FnExactLeastShare", spec := "fnExactLeastShare", unfollowed := true, recurses := true, apart := false }
def FnExactLeastShareSaid : Prop := fnExactLeastShareRow.holds Try.pinned (OpenSpec.ofChange fnExactLeastShareSpec)

/-- ITS FALSE NEIGHBOUR: 'it returns false'. Refute it at one input. -/
def fnExactLeastShareWrong : ChangeSpec := { name := "fnExactLeastShare", fn := fun _ => fun
  | [d] => { results := [.lit (.bool false)], args := [d] }
  | _ => none }
def FnExactLeastShareWrongFalsely : Prop := fnExactLeastShareRow.holds Try.pinned (OpenSpec.ofChange fnExactLeastShareWrong)

/-- 'laws.FnExactShareAt': WHATEVER THE INPUT: true; the input reads as it did. -/
def fnExactShareAtSpec : ChangeSpec := { name := "fnExactShareAt", fn := fun _ => fun
  | [d1, d2] => { results := [.lit (.bool true)], args := [d1, d2] }
  | _ => none }
def fnExactShareAtRow : OpenClaim := { program := "ytfoilfgiablleaa", sum := "23413288de4ab4a2b57fd2b8efa7e65980b53b9e1f6a5b8e92a68ff3224d10f0", func := "loop.example/g00982/laws.FnExactShareAt", spec := "fnExactShareAt", unfollowed := true, recurses := true, apart := false }
def FnExactShareAtSaid : Prop := fnExactShareAtRow.holds Try.pinned (OpenSpec.ofChange fnExactShareAtSpec)

/-- ITS FALSE NEIGHBOUR: 'it returns false'. Refute it at one input. -/
def fnExactShareAtWrong : ChangeSpec := { name := "fnExactShareAt", fn := fun _ => fun
  | [d1, d2] => { results := [.lit (.bool false)], args := [d1, d2] }
  | _ => none }
def FnExactShareAtWrongFalsely : Prop := fnExactShareAtRow.holds Try.pinned (OpenSpec.ofChange fnExactShareAtWrong)

/- THE SECOND FORM. 'bulk': how many values and letters a reading holds, each counted each time it is reached (what is shared counts as often as it is met; a slice's spare places count too). A statement '..UptoSaid' is the law's where the arguments, and the package variables that the reading takes, are together of bulk at most 1048576: NARROWER than '..Said'. Prove '..Said' where nothing that the law and all that it calls make is longer than what came in: it says more and counts as full. Else prove '..UptoSaid'. A law counts once. -/
mutual
def uptoBulk {H : Type} : DataW H → Nat
  | .lit (.string bytes) => bytes.length + 1
  | .lit _ => 1
  | .nil => 1
  | .ptr d => uptoBulk d + 1
  | .slice elems spare => uptoBulkAll elems + uptoBulkAll spare + 1
  | .agg parts => uptoBulkAll parts + 1
  | .iface _ d => uptoBulk d + 1
  | .map entries => uptoBulkEntries entries + 1
  | .held _ => 1
def uptoBulkAll {H : Type} : List (DataW H) → Nat
  | [] => 0
  | d :: r => uptoBulk d + uptoBulkAll r
def uptoBulkEntries {H : Type} : List (Lit × DataW H) → Nat
  | [] => 0
  | x :: r => uptoBulkEntry x + uptoBulkEntries r
def uptoBulkEntry {H : Type} : Lit × DataW H → Nat
  | (.string bytes, d) => bytes.length + uptoBulk d + 1
  | (_, d) => uptoBulk d + 1
 end
def uptoSmall : (H : Type) → List (DataW H) → Bool := fun _ ds => decide (uptoBulkAll ds ≤ 1048576)
def OpenSpec.upto (s : _root_.Go.ChangeSpec) : _root_.Go.OpenSpec := { _root_.Go.OpenSpec.ofChange s with cond := some uptoSmall }

/-- 'laws.FnTransferred', WHERE WHAT IT READS IS OF BULK AT MOST 1048576: true; the input reads as it did. -/
def fnTransferredUptoRow : OpenClaim := { program := "ytfoilfgiablleaa", sum := "23413288de4ab4a2b57fd2b8efa7e65980b53b9e1f6a5b8e92a68ff3224d10f0", func := "loop.example/g00982/laws.FnTransferred", spec := "fnTransferred", inPlace := ["slices.overlaps[loop.example/g00982/impl.Id]"], unfollowed := true, recurses := true, apart := false, narrowed := true }
def FnTransferredUptoSaid : Prop := fnTransferredUptoRow.holds Try.pinned (OpenSpec.upto fnTransferredSpec)

/-- 'laws.FnUndone', WHERE WHAT IT READS IS OF BULK AT MOST 1048576: true; the input reads as it did. -/
def fnUndoneUptoRow : OpenClaim := { program := "ytfoilfgiablleaa", sum := "23413288de4ab4a2b57fd2b8efa7e65980b53b9e1f6a5b8e92a68ff3224d10f0", func := "loop.example/g00982/laws.FnUndone", spec := "fnUndone", inPlace := ["slices.overlaps[loop.example/g00982/impl.Id]"], unfollowed := true, recurses := true, apart := false, narrowed := true }
def FnUndoneUptoSaid : Prop := fnUndoneUptoRow.holds Try.pinned (OpenSpec.upto fnUndoneSpec)

/-- 'laws.FnSharesKept', WHERE WHAT IT READS IS OF BULK AT MOST 1048576: true; the input reads as it did. -/
def fnSharesKeptUptoRow : OpenClaim := { program := "ytfoilfgiablleaa", sum := "23413288de4ab4a2b57fd2b8efa7e65980b53b9e1f6a5b8e92a68ff3224d10f0", func := "loop.example/g00982/laws.FnSharesKept", spec := "fnSharesKept", unfollowed := true, recurses := true, apart := false, narrowed := true }
def FnSharesKeptUptoSaid : Prop := fnSharesKeptUptoRow.holds Try.pinned (OpenSpec.upto fnSharesKeptSpec)

/-- 'laws.FnCarried', WHERE WHAT IT READS IS OF BULK AT MOST 1048576: true; the input reads as it did. -/
def fnCarriedUptoRow : OpenClaim := { program := "ytfoilfgiablleaa", sum := "23413288de4ab4a2b57fd2b8efa7e65980b53b9e1f6a5b8e92a68ff3224d10f0", func := "loop.example/g00982/laws.FnCarried", spec := "fnCarried", unfollowed := true, recurses := true, apart := false, narrowed := true }
def FnCarriedUptoSaid : Prop := fnCarriedUptoRow.holds Try.pinned (OpenSpec.upto fnCarriedSpec)

/-- 'laws.FnExactShareOut', WHERE WHAT IT READS IS OF BULK AT MOST 1048576: true; the input reads as it did. -/
def fnExactShareOutUptoRow : OpenClaim := { program := "ytfoilfgiablleaa", sum := "23413288de4ab4a2b57fd2b8efa7e65980b53b9e1f6a5b8e92a68ff3224d10f0", func := "loop.example/g00982/laws.FnExactShareOut", spec := "fnExactShareOut", unfollowed := true, recurses := true, apart := false, narrowed := true }
def FnExactShareOutUptoSaid : Prop := fnExactShareOutUptoRow.holds Try.pinned (OpenSpec.upto fnExactShareOutSpec)

/-- 'laws.FnExactRefineState', WHERE WHAT IT READS IS OF BULK AT MOST 1048576: true; the input reads as it did. -/
def fnExactRefineStateUptoRow : OpenClaim := { program := "ytfoilfgiablleaa", sum := "23413288de4ab4a2b57fd2b8efa7e65980b53b9e1f6a5b8e92a68ff3224d10f0", func := "loop.example/g00982/laws.FnExactRefineState", spec := "fnExactRefineState", inPlace := ["slices.overlaps[loop.example/g00982/impl.Id]"], unfollowed := true, recurses := true, apart := false, narrowed := true }
def FnExactRefineStateUptoSaid : Prop := fnExactRefineStateUptoRow.holds Try.pinned (OpenSpec.upto fnExactRefineStateSpec)

/-- 'laws.FnExactBalanceRefine', WHERE WHAT IT READS IS OF BULK AT MOST 1048576: true; the input reads as it did. -/
def fnExactBalanceRefineUptoRow : OpenClaim := { program := "ytfoilfgiablleaa", sum := "23413288de4ab4a2b57fd2b8efa7e65980b53b9e1f6a5b8e92a68ff3224d10f0", func := "loop.example/g00982/laws.FnExactBalanceRefine", spec := "fnExactBalanceRefine", inPlace := ["slices.overlaps[loop.example/g00982/impl.Id]"], unfollowed := true, recurses := true, apart := false, narrowed := true }
def FnExactBalanceRefineUptoSaid : Prop := fnExactBalanceRefineUptoRow.holds Try.pinned (OpenSpec.upto fnExactBalanceRefineSpec)

/-- 'laws.FnExactLeafOut', WHERE WHAT IT READS IS OF BULK AT MOST 1048576: true; the input reads as it did. -/
def fnExactLeafOutUptoRow : OpenClaim := { program := "ytfoilfgiablleaa", sum := "23413288de4ab4a2b57fd2b8efa7e65980b53b9e1f6a5b8e92a68ff3224d10f0", func := "loop.example/g00982/laws.FnExactLeafOut", spec := "fnExactLeafOut", unfollowed := true, recurses := true, apart := false, narrowed := true }
def FnExactLeafOutUptoSaid : Prop := fnExactLeafOutUptoRow.holds Try.pinned (OpenSpec.upto fnExactLeafOutSpec)

/-- 'laws.FnExactTracerFlux', WHERE WHAT IT READS IS OF BULK AT MOST 1048576: true; the input reads as it did. -/
def fnExactTracerFluxUptoRow : OpenClaim := { program := "ytfoilfgiablleaa", sum := "23413288de4ab4a2b57fd2b8efa7e65980b53b9e1f6a5b8e92a68ff3224d10f0", func := "loop.example/g00982/laws.FnExactTracerFlux", spec := "fnExactTracerFlux", unfollowed := true, recurses := true, apart := false, narrowed := true }
def FnExactTracerFluxUptoSaid : Prop := fnExactTracerFluxUptoRow.holds Try.pinned (OpenSpec.upto fnExactTracerFluxSpec)

/-- 'laws.FnExactGreatestShare', WHERE WHAT IT READS IS OF BULK AT MOST 1048576: true; the input reads as it did. -/
def fnExactGreatestShareUptoRow : OpenClaim := { program := "ytfoilfgiablleaa", sum := "23413288de4ab4a2b57fd2b8efa7e65980b53b9e1f6a5b8e92a68ff3224d10f0", func := "loop.example/g00982/laws.FnExactGreatestShare", spec := "fnExactGreatestShare", unfollowed := true, recurses := true, apart := false, narrowed := true }
def FnExactGreatestShareUptoSaid : Prop := fnExactGreatestShareUptoRow.holds Try.pinned (OpenSpec.upto fnExactGreatestShareSpec)

/-- 'laws.FnExactLeastShare', WHERE WHAT IT READS IS OF BULK AT MOST 1048576: true; the input reads as it did. -/
def fnExactLeastShareUptoRow : OpenClaim := { program := "ytfoilfgiablleaa", sum := "23413288de4ab4a2b57fd2b8efa7e65980b53b9e1f6a5b8e92a68ff3224d10f0", func := "loop.example/g00982/laws.FnExactLeastShare", spec := "fnExactLeastShare", unfollowed := true, recurses := true, apart := false, narrowed := true }
def FnExactLeastShareUptoSaid : Prop := fnExactLeastShareUptoRow.holds Try.pinned (OpenSpec.upto fnExactLeastShareSpec)

/-- 'laws.FnExactShareAt', WHERE WHAT IT READS IS OF BULK AT MOST 1048576: true; the input reads as it did. -/
def fnExactShareAtUptoRow : OpenClaim := { program := "ytfoilfgiablleaa", sum := "23413288de4ab4a2b57fd2b8efa7e65980b53b9e1f6a5b8e92a68ff3224d10f0", func := "loop.example/g00982/laws.FnExactShareAt", spec := "fnExactShareAt", unfollowed := true, recurses := true, apart := false, narrowed := true }
def FnExactShareAtUptoSaid : Prop := fnExactShareAtUptoRow.holds Try.pinned (OpenSpec.upto fnExactShareAtSpec)

end Rows
end Go.Proofs.Ytfoilfgiablleaa
