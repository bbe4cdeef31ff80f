/-
  No cell of these rows narrows 'for every input' (looked for: loops, veiled, ifaces, maps, wideKeys, modest, calm, conditions, laid).
  DERIVED. THE GIVEN ROWS OF THIS SEAT. 9 by the template 'for every input the law returns true; each argument reads behind the call as it read before'; 0 by the template 'total and deterministic' (their statements: YthecidagejagmaaTotals.lean).
  GIVEN WITH THE SEED: the statements are not yours to turn. If you find one false, say at which input.
  Laid BY PROGRAM, IN A SANDBOX (cutbox-rows.mjs): the forced cells as the released guide's own fill.sh prints them over the translation a64ec37a4ff9e3ca… (all of the seat's roots in one cut). By AI agents, Wed Nov 11 2026. No macro, syntax, notation, axiom, sorry.
-/
import Derived.Test.YthecidagejagmaaChecked
import GoSem.Claim
import GoSem.ClaimJoined
import GoSem.ClaimMapViews
import Derived.JoinedTies
import Derived.KernelRfl
namespace Go.Proofs.Ythecidagejagmaa
/- THE CELL 'sum', in the pinned program and in every row, IS THE sha256 OF THE DUMP (.gsa) THAT YthecidagejagmaaProg.lean LOADS. Nothing in Lean hashes anything: it is a label: what it is worth is what the hold of that sum in a sandbox is worth. -/
noncomputable def Try.pinned : Pinned := { name := "ythecidagejagmaa", sum := "a64ec37a4ff9e3ca8d2ec931cd63b950fd503c8fc45d782ccc370060b390d84e", checked := Try.checked }
namespace Rows
def none {H : Type} : Left H := { results := [], args := [] }

/-- 'laws.FnTrees': WHATEVER THE INPUT: true; the input reads as it did. -/
def fnTreesSpec : ChangeSpec := { name := "fnTrees", fn := fun _ => fun
  | [d] => { results := [.lit (.bool true)], args := [d] }
  | _ => none }
def fnTreesRow : OpenClaim := { program := "ythecidagejagmaa", sum := "a64ec37a4ff9e3ca8d2ec931cd63b950fd503c8fc45d782ccc370060b390d84e", func := "loop.example/g00982/laws.FnTrees", spec := "fnTrees", apart := false }
def FnTreesSaid : Prop := fnTreesRow.holds Try.pinned (OpenSpec.ofChange fnTreesSpec)

/-- ITS FALSE NEIGHBOUR: 'it returns false'. Refute it at one input. -/
def fnTreesWrong : ChangeSpec := { name := "fnTrees", fn := fun _ => fun
  | [d] => { results := [.lit (.bool false)], args := [d] }
  | _ => none }
def FnTreesWrongFalsely : Prop := fnTreesRow.holds Try.pinned (OpenSpec.ofChange fnTreesWrong)

/-- 'laws.FnContained': WHATEVER THE INPUT: true; the input reads as it did. -/
def fnContainedSpec : ChangeSpec := { name := "fnContained", fn := fun _ => fun
  | [d] => { results := [.lit (.bool true)], args := [d] }
  | _ => none }
def fnContainedRow : OpenClaim := { program := "ythecidagejagmaa", sum := "a64ec37a4ff9e3ca8d2ec931cd63b950fd503c8fc45d782ccc370060b390d84e", func := "loop.example/g00982/laws.FnContained", spec := "fnContained", apart := false }
def FnContainedSaid : Prop := fnContainedRow.holds Try.pinned (OpenSpec.ofChange fnContainedSpec)

/-- ITS FALSE NEIGHBOUR: 'it returns false'. Refute it at one input. -/
def fnContainedWrong : ChangeSpec := { name := "fnContained", fn := fun _ => fun
  | [d] => { results := [.lit (.bool false)], args := [d] }
  | _ => none }
def FnContainedWrongFalsely : Prop := fnContainedRow.holds Try.pinned (OpenSpec.ofChange fnContainedWrong)

/-- 'laws.FnExactIdOk': WHATEVER THE INPUT: true; the input reads as it did. -/
def fnExactIdOkSpec : ChangeSpec := { name := "fnExactIdOk", fn := fun _ => fun
  | [d] => { results := [.lit (.bool true)], args := [d] }
  | _ => none }
def fnExactIdOkRow : OpenClaim := { program := "ythecidagejagmaa", sum := "a64ec37a4ff9e3ca8d2ec931cd63b950fd503c8fc45d782ccc370060b390d84e", func := "loop.example/g00982/laws.FnExactIdOk", spec := "fnExactIdOk", apart := false }
def FnExactIdOkSaid : Prop := fnExactIdOkRow.holds Try.pinned (OpenSpec.ofChange fnExactIdOkSpec)

/-- ITS FALSE NEIGHBOUR: 'it returns false'. Refute it at one input. -/
def fnExactIdOkWrong : ChangeSpec := { name := "fnExactIdOk", fn := fun _ => fun
  | [d] => { results := [.lit (.bool false)], args := [d] }
  | _ => none }
def FnExactIdOkWrongFalsely : Prop := fnExactIdOkRow.holds Try.pinned (OpenSpec.ofChange fnExactIdOkWrong)

/-- 'laws.FnExactWidthOf': WHATEVER THE INPUT: true; the input reads as it did. -/
def fnExactWidthOfSpec : ChangeSpec := { name := "fnExactWidthOf", fn := fun _ => fun
  | [d] => { results := [.lit (.bool true)], args := [d] }
  | _ => none }
def fnExactWidthOfRow : OpenClaim := { program := "ythecidagejagmaa", sum := "a64ec37a4ff9e3ca8d2ec931cd63b950fd503c8fc45d782ccc370060b390d84e", func := "loop.example/g00982/laws.FnExactWidthOf", spec := "fnExactWidthOf", apart := false }
def FnExactWidthOfSaid : Prop := fnExactWidthOfRow.holds Try.pinned (OpenSpec.ofChange fnExactWidthOfSpec)

/-- ITS FALSE NEIGHBOUR: 'it returns false'. Refute it at one input. -/
def fnExactWidthOfWrong : ChangeSpec := { name := "fnExactWidthOf", fn := fun _ => fun
  | [d] => { results := [.lit (.bool false)], args := [d] }
  | _ => none }
def FnExactWidthOfWrongFalsely : Prop := fnExactWidthOfRow.holds Try.pinned (OpenSpec.ofChange fnExactWidthOfWrong)

/-- 'laws.FnExactStartOf': WHATEVER THE INPUT: true; the input reads as it did. -/
def fnExactStartOfSpec : ChangeSpec := { name := "fnExactStartOf", fn := fun _ => fun
  | [d] => { results := [.lit (.bool true)], args := [d] }
  | _ => none }
def fnExactStartOfRow : OpenClaim := { program := "ythecidagejagmaa", sum := "a64ec37a4ff9e3ca8d2ec931cd63b950fd503c8fc45d782ccc370060b390d84e", func := "loop.example/g00982/laws.FnExactStartOf", spec := "fnExactStartOf", apart := false }
def FnExactStartOfSaid : Prop := fnExactStartOfRow.holds Try.pinned (OpenSpec.ofChange fnExactStartOfSpec)

/-- ITS FALSE NEIGHBOUR: 'it returns false'. Refute it at one input. -/
def fnExactStartOfWrong : ChangeSpec := { name := "fnExactStartOf", fn := fun _ => fun
  | [d] => { results := [.lit (.bool false)], args := [d] }
  | _ => none }
def FnExactStartOfWrongFalsely : Prop := fnExactStartOfRow.holds Try.pinned (OpenSpec.ofChange fnExactStartOfWrong)

/-- 'laws.FnExactParentOf': WHATEVER THE INPUT: true; the input reads as it did. -/
def fnExactParentOfSpec : ChangeSpec := { name := "fnExactParentOf", fn := fun _ => fun
  | [d] => { results := [.lit (.bool true)], args := [d] }
  | _ => none }
def fnExactParentOfRow : OpenClaim := { program := "ythecidagejagmaa", sum := "a64ec37a4ff9e3ca8d2ec931cd63b950fd503c8fc45d782ccc370060b390d84e", func := "loop.example/g00982/laws.FnExactParentOf", spec := "fnExactParentOf", apart := false }
def FnExactParentOfSaid : Prop := fnExactParentOfRow.holds Try.pinned (OpenSpec.ofChange fnExactParentOfSpec)

/-- ITS FALSE NEIGHBOUR: 'it returns false'. Refute it at one input. -/
def fnExactParentOfWrong : ChangeSpec := { name := "fnExactParentOf", fn := fun _ => fun
  | [d] => { results := [.lit (.bool false)], args := [d] }
  | _ => none }
def FnExactParentOfWrongFalsely : Prop := fnExactParentOfRow.holds Try.pinned (OpenSpec.ofChange fnExactParentOfWrong)

/-- 'laws.FnExactChildOf': WHATEVER THE INPUT: true; the input reads as it did. -/
def fnExactChildOfSpec : ChangeSpec := { name := "fnExactChildOf", fn := fun _ => fun
  | [d1, d2] => { results := [.lit (.bool true)], args := [d1, d2] }
  | _ => none }
def fnExactChildOfRow : OpenClaim := { program := "ythecidagejagmaa", sum := "a64ec37a4ff9e3ca8d2ec931cd63b950fd503c8fc45d782ccc370060b390d84e", func := "loop.example/g00982/laws.FnExactChildOf", spec := "fnExactChildOf", apart := false }
def FnExactChildOfSaid : Prop := fnExactChildOfRow.holds Try.pinned (OpenSpec.ofChange fnExactChildOfSpec)

/-- ITS FALSE NEIGHBOUR: 'it returns false'. Refute it at one input. -/
def fnExactChildOfWrong : ChangeSpec := { name := "fnExactChildOf", fn := fun _ => fun
  | [d1, d2] => { results := [.lit (.bool false)], args := [d1, d2] }
  | _ => none }
def FnExactChildOfWrongFalsely : Prop := fnExactChildOfRow.holds Try.pinned (OpenSpec.ofChange fnExactChildOfWrong)

/-- 'laws.FnExactIsSibling': WHATEVER THE INPUT: true; the input reads as it did. -/
def fnExactIsSiblingSpec : ChangeSpec := { name := "fnExactIsSibling", fn := fun _ => fun
  | [d1, d2] => { results := [.lit (.bool true)], args := [d1, d2] }
  | _ => none }
def fnExactIsSiblingRow : OpenClaim := { program := "ythecidagejagmaa", sum := "a64ec37a4ff9e3ca8d2ec931cd63b950fd503c8fc45d782ccc370060b390d84e", func := "loop.example/g00982/laws.FnExactIsSibling", spec := "fnExactIsSibling", apart := false }
def FnExactIsSiblingSaid : Prop := fnExactIsSiblingRow.holds Try.pinned (OpenSpec.ofChange fnExactIsSiblingSpec)

/-- ITS FALSE NEIGHBOUR: 'it returns false'. Refute it at one input. -/
def fnExactIsSiblingWrong : ChangeSpec := { name := "fnExactIsSibling", fn := fun _ => fun
  | [d1, d2] => { results := [.lit (.bool false)], args := [d1, d2] }
  | _ => none }
def FnExactIsSiblingWrongFalsely : Prop := fnExactIsSiblingRow.holds Try.pinned (OpenSpec.ofChange fnExactIsSiblingWrong)

/-- 'laws.FnExactContains': WHATEVER THE INPUT: true; the input reads as it did. -/
def fnExactContainsSpec : ChangeSpec := { name := "fnExactContains", fn := fun _ => fun
  | [d1, d2] => { results := [.lit (.bool true)], args := [d1, d2] }
  | _ => none }
def fnExactContainsRow : OpenClaim := { program := "ythecidagejagmaa", sum := "a64ec37a4ff9e3ca8d2ec931cd63b950fd503c8fc45d782ccc370060b390d84e", func := "loop.example/g00982/laws.FnExactContains", spec := "fnExactContains", apart := false }
def FnExactContainsSaid : Prop := fnExactContainsRow.holds Try.pinned (OpenSpec.ofChange fnExactContainsSpec)

/-- ITS FALSE NEIGHBOUR: 'it returns false'. Refute it at one input. -/
def fnExactContainsWrong : ChangeSpec := { name := "fnExactContains", fn := fun _ => fun
  | [d1, d2] => { results := [.lit (.bool false)], args := [d1, d2] }
  | _ => none }
def FnExactContainsWrongFalsely : Prop := fnExactContainsRow.holds Try.pinned (OpenSpec.ofChange fnExactContainsWrong)

/- THE SECOND FORM. 'bulk': how many values and letters a reading holds, each counted each time it is reached (what is shared counts as often as it is met; a slice's spare places count too). A statement '..UptoSaid' is the law's where the arguments, and the package variables that the reading takes, are together of bulk at most 1048576: NARROWER than '..Said'. Prove '..Said' where nothing that the law and all that it calls make is longer than what came in: it says more and counts as full. Else prove '..UptoSaid'. A law counts once. -/
mutual
def uptoBulk {H : Type} : DataW H → Nat
  | .lit (.string bytes) => bytes.length + 1
  | .lit _ => 1
  | .nil => 1
  | .ptr d => uptoBulk d + 1
  | .slice elems spare => uptoBulkAll elems + uptoBulkAll spare + 1
  | .agg parts => uptoBulkAll parts + 1
  | .iface _ d => uptoBulk d + 1
  | .map entries => uptoBulkEntries entries + 1
  | .held _ => 1
def uptoBulkAll {H : Type} : List (DataW H) → Nat
  | [] => 0
  | d :: r => uptoBulk d + uptoBulkAll r
def uptoBulkEntries {H : Type} : List (Lit × DataW H) → Nat
  | [] => 0
  | x :: r => uptoBulkEntry x + uptoBulkEntries r
def uptoBulkEntry {H : Type} : Lit × DataW H → Nat
  | (.string bytes, d) => bytes.length + uptoBulk d + 1
  | (_, d) => uptoBulk d + 1
 end
def uptoSmall : (H : Type) → List (DataW H) → Bool := fun _ ds => decide (uptoBulkAll ds ≤ 1048576)
def OpenSpec.upto (s : _root_.Go.ChangeSpec) : _root_.Go.OpenSpec := { _root_.Go.OpenSpec.ofChange s with cond := some uptoSmall }

/-- 'laws.FnTrees', WHERE WHAT IT READS IS OF BULK AT MOST 1048576: true; the input reads as it did. -/
def fnTreesUptoRow : OpenClaim := { program := "ythecidagejagmaa", sum := "a64ec37a4ff9e3ca8d2ec931cd63b950fd503c8fc45d782ccc370060b390d84e", func := "loop.example/g00982/laws.FnTrees", spec := "fnTrees", apart := false, narrowed := true }
def FnTreesUptoSaid : Prop := fnTreesUptoRow.holds Try.pinned (OpenSpec.upto fnTreesSpec)

/-- 'laws.FnContained', WHERE WHAT IT READS IS OF BULK AT MOST 1048576: true; the input reads as it did. -/
def fnContainedUptoRow : OpenClaim := { program := "ythecidagejagmaa", sum := "a64ec37a4ff9e3ca8d2ec931cd63b950fd503c8fc45d782ccc370060b390d84e", func := "loop.example/g00982/laws.FnContained", spec := "fnContained", apart := false, narrowed := true }
def FnContainedUptoSaid : Prop := fnContainedUptoRow.holds Try.pinned (OpenSpec.upto fnContainedSpec)

/-- 'laws.FnExactIdOk', WHERE WHAT IT READS IS OF BULK AT MOST 1048576: true; the input reads as it did. -/
def fnExactIdOkUptoRow : OpenClaim := { program := "ythecidagejagmaa", sum := "a64ec37a4ff9e3ca8d2ec931cd63b950fd503c8fc45d782ccc370060b390d84e", func := "loop.example/g00982/laws.FnExactIdOk", spec := "fnExactIdOk", apart := false, narrowed := true }
def FnExactIdOkUptoSaid : Prop := fnExactIdOkUptoRow.holds Try.pinned (OpenSpec.upto fnExactIdOkSpec)

/-- 'laws.FnExactWidthOf', WHERE WHAT IT READS IS OF BULK AT MOST 1048576: true; the input reads as it did. -/
def fnExactWidthOfUptoRow : OpenClaim := { program := "ythecidagejagmaa", sum := "a64ec37a4ff9e3ca8d2ec931cd63b950fd503c8fc45d782ccc370060b390d84e", func := "loop.example/g00982/laws.FnExactWidthOf", spec := "fnExactWidthOf", apart := false, narrowed := true }
def FnExactWidthOfUptoSaid : Prop := fnExactWidthOfUptoRow.holds Try.pinned (OpenSpec.upto fnExactWidthOfSpec)

/-- 'laws.FnExactStartOf', WHERE WHAT IT READS IS OF BULK AT MOST 1048576: true; the input reads as it did. -/
def fnExactStartOfUptoRow : OpenClaim := { program := "ythecidagejagmaa", sum := "a64ec37a4ff9e3ca8d2ec931cd63b950fd503c8fc45d782ccc370060b390d84e", func := "loop.example/g00982/laws.FnExactStartOf", spec := "fnExactStartOf", apart := false, narrowed := true }
def FnExactStartOfUptoSaid : Prop := fnExactStartOfUptoRow.holds Try.pinned (OpenSpec.upto fnExactStartOfSpec)

/-- 'laws.FnExactParentOf', WHERE WHAT IT READS IS OF BULK AT MOST 1048576: true; the input reads as it did. -/
def fnExactParentOfUptoRow : OpenClaim := { program := "ythecidagejagmaa", sum := "a64ec37a4ff9e3ca8d2ec931cd63b950fd503c8fc45d782ccc370060b390d84e", func := "loop.example/g00982/laws.FnExactParentOf", spec := "fnExactParentOf", apart := false, narrowed := true }
def FnExactParentOfUptoSaid : Prop := fnExactParentOfUptoRow.holds Try.pinned (OpenSpec.upto fnExactParentOfSpec)

/-- 'laws.FnExactChildOf', WHERE WHAT IT READS IS OF BULK AT MOST 1048576: true; the input reads as it did. -/
def fnExactChildOfUptoRow : OpenClaim := { program := "ythecidagejagmaa", sum := "a64ec37a4ff9e3ca8d2ec931cd63b950fd503c8fc45d782ccc370060b390d84e", func := "loop.example/g00982/laws.FnExactChildOf", spec := "fnExactChildOf", apart := false, narrowed := true }
def FnExactChildOfUptoSaid : Prop := fnExactChildOfUptoRow.holds Try.pinned (OpenSpec.upto fnExactChildOfSpec)

/-- 'laws.FnExactIsSibling', WHERE WHAT IT READS IS OF BULK AT MOST 1048576: true; the input reads as it did. -/
def fnExactIsSiblingUptoRow : OpenClaim := { program := "ythecidagejagmaa", sum := "a64ec37a4ff9e3ca8d2ec931cd63b950fd503c8fc45d782ccc370060b390d84e", func := "loop.example/g00982/laws.FnExactIsSibling", spec := "fnExactIsSibling", apart := false, narrowed := true }
def FnExactIsSiblingUptoSaid : Prop := fnExactIsSiblingUptoRow.holds Try.pinned (OpenSpec.upto fnExactIsSiblingSpec)

/-- 'laws.FnExactContains', WHERE WHAT IT READS IS OF BULK AT MOST 1048576: true; the input reads as it did. -/
def fnExactContainsUptoRow : OpenClaim := { program := "ythecidagejagmaa", sum := "a64ec37a4ff9e3ca8d2ec931cd63b950fd503c8fc45d782ccc370060b390d84e", func := "loop.example/g00982/laws.FnExactContains", spec := "fnExactContains", apart := false, narrowed := true }
def FnExactContainsUptoSaid : Prop := fnExactContainsUptoRow.holds Try.pinned (OpenSpec.upto fnExactContainsSpec)

end Rows
end Go.Proofs.Ythecidagejagmaa
