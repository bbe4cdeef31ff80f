/-
  No cell of these rows narrows 'for every input' (looked for: loops, veiled, ifaces, maps, wideKeys, modest, calm, conditions, laid).
  DERIVED. THE GIVEN ROWS OF THIS SEAT. 9 by the template 'for every input the law returns true; each argument reads behind the call as it read before'; 0 by the template 'total and deterministic' (their statements: YtmkmlfaekiofcaaTotals.lean).
  GIVEN WITH THE SEED: the statements are not yours to turn. If you find one false, say at which input.
  Laid BY PROGRAM, IN A SANDBOX (cutbox-rows.mjs): the forced cells as the released guide's own fill.sh prints them over the translation 1b2e088540a6861e… (all of the seat's roots in one cut). By AI agents, Wed Nov 11 2026. No macro, syntax, notation, axiom, sorry.
-/
import Derived.Test.YtmkmlfaekiofcaaChecked
import GoSem.Claim
import GoSem.ClaimJoined
import GoSem.ClaimMapViews
import Derived.JoinedTies
import Derived.KernelRfl
namespace Go.Proofs.Ytmkmlfaekiofcaa
/- THE CELL 'sum', in the pinned program and in every row, IS THE sha256 OF THE DUMP (.gsa) THAT YtmkmlfaekiofcaaProg.lean LOADS. Nothing in Lean hashes anything: it is a label: what it is worth is what the hold of that sum in a sandbox is worth. -/
noncomputable def Try.pinned : Pinned := { name := "ytmkmlfaekiofcaa", sum := "1b2e088540a6861ed90ccc9d5f3fc86b0f747feec522a5a88f40874a20bd701a", checked := Try.checked }
namespace Rows
def none {H : Type} : Left H := { results := [], args := [] }

/-- 'laws.FnRefined': WHATEVER THE INPUT: true; the input reads as it did. -/
def fnRefinedSpec : ChangeSpec := { name := "fnRefined", fn := fun _ => fun
  | [d] => { results := [.lit (.bool true)], args := [d] }
  | _ => none }
def fnRefinedRow : OpenClaim := { program := "ytmkmlfaekiofcaa", sum := "1b2e088540a6861ed90ccc9d5f3fc86b0f747feec522a5a88f40874a20bd701a", func := "loop.example/g00982/laws.FnRefined", spec := "fnRefined", inPlace := ["slices.overlaps[loop.example/g00982/impl.Id]"], recurses := true, apart := false }
def FnRefinedSaid : Prop := fnRefinedRow.holds Try.pinned (OpenSpec.ofChange fnRefinedSpec)

/-- ITS FALSE NEIGHBOUR: 'it returns false'. Refute it at one input. -/
def fnRefinedWrong : ChangeSpec := { name := "fnRefined", fn := fun _ => fun
  | [d] => { results := [.lit (.bool false)], args := [d] }
  | _ => none }
def FnRefinedWrongFalsely : Prop := fnRefinedRow.holds Try.pinned (OpenSpec.ofChange fnRefinedWrong)

/-- 'laws.FnCoarsened': WHATEVER THE INPUT: true; the input reads as it did. -/
def fnCoarsenedSpec : ChangeSpec := { name := "fnCoarsened", fn := fun _ => fun
  | [d] => { results := [.lit (.bool true)], args := [d] }
  | _ => none }
def fnCoarsenedRow : OpenClaim := { program := "ytmkmlfaekiofcaa", sum := "1b2e088540a6861ed90ccc9d5f3fc86b0f747feec522a5a88f40874a20bd701a", func := "loop.example/g00982/laws.FnCoarsened", spec := "fnCoarsened", recurses := true, apart := false }
def FnCoarsenedSaid : Prop := fnCoarsenedRow.holds Try.pinned (OpenSpec.ofChange fnCoarsenedSpec)

/-- ITS FALSE NEIGHBOUR: 'it returns false'. Refute it at one input. -/
def fnCoarsenedWrong : ChangeSpec := { name := "fnCoarsened", fn := fun _ => fun
  | [d] => { results := [.lit (.bool false)], args := [d] }
  | _ => none }
def FnCoarsenedWrongFalsely : Prop := fnCoarsenedRow.holds Try.pinned (OpenSpec.ofChange fnCoarsenedWrong)

/-- 'laws.FnExactMayRefine': WHATEVER THE INPUT: true; the input reads as it did. -/
def fnExactMayRefineSpec : ChangeSpec := { name := "fnExactMayRefine", fn := fun _ => fun
  | [d1, d2] => { results := [.lit (.bool true)], args := [d1, d2] }
  | _ => none }
def fnExactMayRefineRow : OpenClaim := { program := "ytmkmlfaekiofcaa", sum := "1b2e088540a6861ed90ccc9d5f3fc86b0f747feec522a5a88f40874a20bd701a", func := "loop.example/g00982/laws.FnExactMayRefine", spec := "fnExactMayRefine", apart := false }
def FnExactMayRefineSaid : Prop := fnExactMayRefineRow.holds Try.pinned (OpenSpec.ofChange fnExactMayRefineSpec)

/-- ITS FALSE NEIGHBOUR: 'it returns false'. Refute it at one input. -/
def fnExactMayRefineWrong : ChangeSpec := { name := "fnExactMayRefine", fn := fun _ => fun
  | [d1, d2] => { results := [.lit (.bool false)], args := [d1, d2] }
  | _ => none }
def FnExactMayRefineWrongFalsely : Prop := fnExactMayRefineRow.holds Try.pinned (OpenSpec.ofChange fnExactMayRefineWrong)

/-- 'laws.FnExactRefineLeaf': WHATEVER THE INPUT: true; the input reads as it did. -/
def fnExactRefineLeafSpec : ChangeSpec := { name := "fnExactRefineLeaf", fn := fun _ => fun
  | [d1, d2] => { results := [.lit (.bool true)], args := [d1, d2] }
  | _ => none }
def fnExactRefineLeafRow : OpenClaim := { program := "ytmkmlfaekiofcaa", sum := "1b2e088540a6861ed90ccc9d5f3fc86b0f747feec522a5a88f40874a20bd701a", func := "loop.example/g00982/laws.FnExactRefineLeaf", spec := "fnExactRefineLeaf", inPlace := ["slices.overlaps[loop.example/g00982/impl.Id]"], apart := false }
def FnExactRefineLeafSaid : Prop := fnExactRefineLeafRow.holds Try.pinned (OpenSpec.ofChange fnExactRefineLeafSpec)

/-- ITS FALSE NEIGHBOUR: 'it returns false'. Refute it at one input. -/
def fnExactRefineLeafWrong : ChangeSpec := { name := "fnExactRefineLeaf", fn := fun _ => fun
  | [d1, d2] => { results := [.lit (.bool false)], args := [d1, d2] }
  | _ => none }
def FnExactRefineLeafWrongFalsely : Prop := fnExactRefineLeafRow.holds Try.pinned (OpenSpec.ofChange fnExactRefineLeafWrong)

/-- 'laws.FnExactMayCoarsen': WHATEVER THE INPUT: true; the input reads as it did. -/
def fnExactMayCoarsenSpec : ChangeSpec := { name := "fnExactMayCoarsen", fn := fun _ => fun
  | [d1, d2] => { results := [.lit (.bool true)], args := [d1, d2] }
  | _ => none }
def fnExactMayCoarsenRow : OpenClaim := { program := "ytmkmlfaekiofcaa", sum := "1b2e088540a6861ed90ccc9d5f3fc86b0f747feec522a5a88f40874a20bd701a", func := "loop.example/g00982/laws.FnExactMayCoarsen", spec := "fnExactMayCoarsen", apart := false }
def FnExactMayCoarsenSaid : Prop := fnExactMayCoarsenRow.holds Try.pinned (OpenSpec.ofChange fnExactMayCoarsenSpec)

/-- ITS FALSE NEIGHBOUR: 'it returns false'. Refute it at one input. -/
def fnExactMayCoarsenWrong : ChangeSpec := { name := "fnExactMayCoarsen", fn := fun _ => fun
  | [d1, d2] => { results := [.lit (.bool false)], args := [d1, d2] }
  | _ => none }
def FnExactMayCoarsenWrongFalsely : Prop := fnExactMayCoarsenRow.holds Try.pinned (OpenSpec.ofChange fnExactMayCoarsenWrong)

/-- 'laws.FnExactCoarsenPair': WHATEVER THE INPUT: true; the input reads as it did. -/
def fnExactCoarsenPairSpec : ChangeSpec := { name := "fnExactCoarsenPair", fn := fun _ => fun
  | [d1, d2] => { results := [.lit (.bool true)], args := [d1, d2] }
  | _ => none }
def fnExactCoarsenPairRow : OpenClaim := { program := "ytmkmlfaekiofcaa", sum := "1b2e088540a6861ed90ccc9d5f3fc86b0f747feec522a5a88f40874a20bd701a", func := "loop.example/g00982/laws.FnExactCoarsenPair", spec := "fnExactCoarsenPair", apart := false }
def FnExactCoarsenPairSaid : Prop := fnExactCoarsenPairRow.holds Try.pinned (OpenSpec.ofChange fnExactCoarsenPairSpec)

/-- ITS FALSE NEIGHBOUR: 'it returns false'. Refute it at one input. -/
def fnExactCoarsenPairWrong : ChangeSpec := { name := "fnExactCoarsenPair", fn := fun _ => fun
  | [d1, d2] => { results := [.lit (.bool false)], args := [d1, d2] }
  | _ => none }
def FnExactCoarsenPairWrongFalsely : Prop := fnExactCoarsenPairRow.holds Try.pinned (OpenSpec.ofChange fnExactCoarsenPairWrong)

/-- 'laws.FnExactSameMesh': WHATEVER THE INPUT: true; the input reads as it did. -/
def fnExactSameMeshSpec : ChangeSpec := { name := "fnExactSameMesh", fn := fun _ => fun
  | [d1, d2] => { results := [.lit (.bool true)], args := [d1, d2] }
  | _ => none }
def fnExactSameMeshRow : OpenClaim := { program := "ytmkmlfaekiofcaa", sum := "1b2e088540a6861ed90ccc9d5f3fc86b0f747feec522a5a88f40874a20bd701a", func := "loop.example/g00982/laws.FnExactSameMesh", spec := "fnExactSameMesh", apart := false }
def FnExactSameMeshSaid : Prop := fnExactSameMeshRow.holds Try.pinned (OpenSpec.ofChange fnExactSameMeshSpec)

/-- ITS FALSE NEIGHBOUR: 'it returns false'. Refute it at one input. -/
def fnExactSameMeshWrong : ChangeSpec := { name := "fnExactSameMesh", fn := fun _ => fun
  | [d1, d2] => { results := [.lit (.bool false)], args := [d1, d2] }
  | _ => none }
def FnExactSameMeshWrongFalsely : Prop := fnExactSameMeshRow.holds Try.pinned (OpenSpec.ofChange fnExactSameMeshWrong)

/-- 'laws.FnExactBalance': WHATEVER THE INPUT: true; the input reads as it did. -/
def fnExactBalanceSpec : ChangeSpec := { name := "fnExactBalance", fn := fun _ => fun
  | [d] => { results := [.lit (.bool true)], args := [d] }
  | _ => none }
def fnExactBalanceRow : OpenClaim := { program := "ytmkmlfaekiofcaa", sum := "1b2e088540a6861ed90ccc9d5f3fc86b0f747feec522a5a88f40874a20bd701a", func := "loop.example/g00982/laws.FnExactBalance", spec := "fnExactBalance", inPlace := ["slices.overlaps[loop.example/g00982/impl.Id]"], apart := false }
def FnExactBalanceSaid : Prop := fnExactBalanceRow.holds Try.pinned (OpenSpec.ofChange fnExactBalanceSpec)

/-- ITS FALSE NEIGHBOUR: 'it returns false'. Refute it at one input. -/
def fnExactBalanceWrong : ChangeSpec := { name := "fnExactBalance", fn := fun _ => fun
  | [d] => { results := [.lit (.bool false)], args := [d] }
  | _ => none }
def FnExactBalanceWrongFalsely : Prop := fnExactBalanceRow.holds Try.pinned (OpenSpec.ofChange fnExactBalanceWrong)

/-- 'laws.FnBalanced': WHATEVER THE INPUT: true; the input reads as it did. -/
def fnBalancedSpec : ChangeSpec := { name := "fnBalanced", fn := fun _ => fun
  | [d] => { results := [.lit (.bool true)], args := [d] }
  | _ => none }
def fnBalancedRow : OpenClaim := { program := "ytmkmlfaekiofcaa", sum := "1b2e088540a6861ed90ccc9d5f3fc86b0f747feec522a5a88f40874a20bd701a", func := "loop.example/g00982/laws.FnBalanced", spec := "fnBalanced", inPlace := ["slices.overlaps[loop.example/g00982/impl.Id]"], recurses := true, apart := false }
def FnBalancedSaid : Prop := fnBalancedRow.holds Try.pinned (OpenSpec.ofChange fnBalancedSpec)

/-- ITS FALSE NEIGHBOUR: 'it returns false'. Refute it at one input. -/
def fnBalancedWrong : ChangeSpec := { name := "fnBalanced", fn := fun _ => fun
  | [d] => { results := [.lit (.bool false)], args := [d] }
  | _ => none }
def FnBalancedWrongFalsely : Prop := fnBalancedRow.holds Try.pinned (OpenSpec.ofChange fnBalancedWrong)

/- THE SECOND FORM. 'bulk': how many values and letters a reading holds, each counted each time it is reached (what is shared counts as often as it is met; a slice's spare places count too). A statement '..UptoSaid' is the law's where the arguments, and the package variables that the reading takes, are together of bulk at most 1048576: NARROWER than '..Said'. Prove '..Said' where nothing that the law and all that it calls make is longer than what came in: it says more and counts as full. Else prove '..UptoSaid'. A law counts once. -/
mutual
def uptoBulk {H : Type} : DataW H → Nat
  | .lit (.string bytes) => bytes.length + 1
  | .lit _ => 1
  | .nil => 1
  | .ptr d => uptoBulk d + 1
  | .slice elems spare => uptoBulkAll elems + uptoBulkAll spare + 1
  | .agg parts => uptoBulkAll parts + 1
  | .iface _ d => uptoBulk d + 1
  | .map entries => uptoBulkEntries entries + 1
  | .held _ => 1
def uptoBulkAll {H : Type} : List (DataW H) → Nat
  | [] => 0
  | d :: r => uptoBulk d + uptoBulkAll r
def uptoBulkEntries {H : Type} : List (Lit × DataW H) → Nat
  | [] => 0
  | x :: r => uptoBulkEntry x + uptoBulkEntries r
def uptoBulkEntry {H : Type} : Lit × DataW H → Nat
  | (.string bytes, d) => bytes.length + uptoBulk d + 1
  | (_, d) => uptoBulk d + 1
 end
def uptoSmall : (H : Type) → List (DataW H) → Bool := fun _ ds => decide (uptoBulkAll ds ≤ 1048576)
def OpenSpec.upto (s : _root_.Go.ChangeSpec) : _root_.Go.OpenSpec := { _root_.Go.OpenSpec.ofChange s with cond := some uptoSmall }

/-- 'laws.FnRefined', WHERE WHAT IT READS IS OF BULK AT MOST 1048576: true; the input reads as it did. -/
def fnRefinedUptoRow : OpenClaim := { program := "ytmkmlfaekiofcaa", sum := "1b2e088540a6861ed90ccc9d5f3fc86b0f747feec522a5a88f40874a20bd701a", func := "loop.example/g00982/laws.FnRefined", spec := "fnRefined", inPlace := ["slices.overlaps[loop.example/g00982/impl.Id]"], recurses := true, apart := false, narrowed := true }
def FnRefinedUptoSaid : Prop := fnRefinedUptoRow.holds Try.pinned (OpenSpec.upto fnRefinedSpec)

/-- 'laws.FnCoarsened', WHERE WHAT IT READS IS OF BULK AT MOST 1048576: true; the input reads as it did. -/
def fnCoarsenedUptoRow : OpenClaim := { program := "ytmkmlfaekiofcaa", sum := "1b2e088540a6861ed90ccc9d5f3fc86b0f747feec522a5a88f40874a20bd701a", func := "loop.example/g00982/laws.FnCoarsened", spec := "fnCoarsened", recurses := true, apart := false, narrowed := true }
def FnCoarsenedUptoSaid : Prop := fnCoarsenedUptoRow.holds Try.pinned (OpenSpec.upto fnCoarsenedSpec)

/-- 'laws.FnExactMayRefine', WHERE WHAT IT READS IS OF BULK AT MOST 1048576: true; the input reads as it did. -/
def fnExactMayRefineUptoRow : OpenClaim := { program := "ytmkmlfaekiofcaa", sum := "1b2e088540a6861ed90ccc9d5f3fc86b0f747feec522a5a88f40874a20bd701a", func := "loop.example/g00982/laws.FnExactMayRefine", spec := "fnExactMayRefine", apart := false, narrowed := true }
def FnExactMayRefineUptoSaid : Prop := fnExactMayRefineUptoRow.holds Try.pinned (OpenSpec.upto fnExactMayRefineSpec)

/-- 'laws.FnExactRefineLeaf', WHERE WHAT IT READS IS OF BULK AT MOST 1048576: true; the input reads as it did. -/
def fnExactRefineLeafUptoRow : OpenClaim := { program := "ytmkmlfaekiofcaa", sum := "1b2e088540a6861ed90ccc9d5f3fc86b0f747feec522a5a88f40874a20bd701a", func := "loop.example/g00982/laws.FnExactRefineLeaf", spec := "fnExactRefineLeaf", inPlace := ["slices.overlaps[loop.example/g00982/impl.Id]"], apart := false, narrowed := true }
def FnExactRefineLeafUptoSaid : Prop := fnExactRefineLeafUptoRow.holds Try.pinned (OpenSpec.upto fnExactRefineLeafSpec)

/-- 'laws.FnExactMayCoarsen', WHERE WHAT IT READS IS OF BULK AT MOST 1048576: true; the input reads as it did. -/
def fnExactMayCoarsenUptoRow : OpenClaim := { program := "ytmkmlfaekiofcaa", sum := "1b2e088540a6861ed90ccc9d5f3fc86b0f747feec522a5a88f40874a20bd701a", func := "loop.example/g00982/laws.FnExactMayCoarsen", spec := "fnExactMayCoarsen", apart := false, narrowed := true }
def FnExactMayCoarsenUptoSaid : Prop := fnExactMayCoarsenUptoRow.holds Try.pinned (OpenSpec.upto fnExactMayCoarsenSpec)

/-- 'laws.FnExactCoarsenPair', WHERE WHAT IT READS IS OF BULK AT MOST 1048576: true; the input reads as it did. -/
def fnExactCoarsenPairUptoRow : OpenClaim := { program := "ytmkmlfaekiofcaa", sum := "1b2e088540a6861ed90ccc9d5f3fc86b0f747feec522a5a88f40874a20bd701a", func := "loop.example/g00982/laws.FnExactCoarsenPair", spec := "fnExactCoarsenPair", apart := false, narrowed := true }
def FnExactCoarsenPairUptoSaid : Prop := fnExactCoarsenPairUptoRow.holds Try.pinned (OpenSpec.upto fnExactCoarsenPairSpec)

/-- 'laws.FnExactSameMesh', WHERE WHAT IT READS IS OF BULK AT MOST 1048576: true; the input reads as it did. -/
def fnExactSameMeshUptoRow : OpenClaim := { program := "ytmkmlfaekiofcaa", sum := "1b2e088540a6861ed90ccc9d5f3fc86b0f747feec522a5a88f40874a20bd701a", func := "loop.example/g00982/laws.FnExactSameMesh", spec := "fnExactSameMesh", apart := false, narrowed := true }
def FnExactSameMeshUptoSaid : Prop := fnExactSameMeshUptoRow.holds Try.pinned (OpenSpec.upto fnExactSameMeshSpec)

/-- 'laws.FnExactBalance', WHERE WHAT IT READS IS OF BULK AT MOST 1048576: true; the input reads as it did. -/
def fnExactBalanceUptoRow : OpenClaim := { program := "ytmkmlfaekiofcaa", sum := "1b2e088540a6861ed90ccc9d5f3fc86b0f747feec522a5a88f40874a20bd701a", func := "loop.example/g00982/laws.FnExactBalance", spec := "fnExactBalance", inPlace := ["slices.overlaps[loop.example/g00982/impl.Id]"], apart := false, narrowed := true }
def FnExactBalanceUptoSaid : Prop := fnExactBalanceUptoRow.holds Try.pinned (OpenSpec.upto fnExactBalanceSpec)

/-- 'laws.FnBalanced', WHERE WHAT IT READS IS OF BULK AT MOST 1048576: true; the input reads as it did. -/
def fnBalancedUptoRow : OpenClaim := { program := "ytmkmlfaekiofcaa", sum := "1b2e088540a6861ed90ccc9d5f3fc86b0f747feec522a5a88f40874a20bd701a", func := "loop.example/g00982/laws.FnBalanced", spec := "fnBalanced", inPlace := ["slices.overlaps[loop.example/g00982/impl.Id]"], recurses := true, apart := false, narrowed := true }
def FnBalancedUptoSaid : Prop := fnBalancedUptoRow.holds Try.pinned (OpenSpec.upto fnBalancedSpec)

end Rows
end Go.Proofs.Ytmkmlfaekiofcaa
