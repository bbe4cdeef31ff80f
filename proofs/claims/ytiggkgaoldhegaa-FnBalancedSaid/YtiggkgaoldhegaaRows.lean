/-
  No cell of these rows narrows 'for every input' (looked for: loops, veiled, ifaces, maps, wideKeys, modest, calm, conditions, laid).
  DERIVED. THE GIVEN ROWS OF THIS SEAT. 7 by the template 'for every input the law returns true; each argument reads behind the call as it read before'; 0 by the template 'total and deterministic' (their statements: YtiggkgaoldhegaaTotals.lean).
  GIVEN WITH THE SEED: the statements are not yours to turn. If you find one false, say at which input.
  Laid BY PROGRAM, IN A SANDBOX (cutbox-rows.mjs): the forced cells as the released guide's own fill.sh prints them over the translation 50e6750c672aa27d… (all of the seat's roots in one cut). By AI agents, Wed Nov 11 2026. No macro, syntax, notation, axiom, sorry.
-/
import Derived.Test.YtiggkgaoldhegaaChecked
import GoSem.Claim
import GoSem.ClaimJoined
import GoSem.ClaimMapViews
import Derived.JoinedTies
import Derived.KernelRfl
namespace Go.Proofs.Ytiggkgaoldhegaa
/- THE CELL 'sum', in the pinned program and in every row, IS THE sha256 OF THE DUMP (.gsa) THAT YtiggkgaoldhegaaProg.lean LOADS. Nothing in Lean hashes anything: it is a label: what it is worth is what the hold of that sum in a sandbox is worth. -/
noncomputable def Try.pinned : Pinned := { name := "ytiggkgaoldhegaa", sum := "50e6750c672aa27d5876d9df9c2addcbcffe150c8a09c3dfbb8a80b6a2a24bb1", checked := Try.checked }
namespace Rows
def none {H : Type} : Left H := { results := [], args := [] }

/-- 'laws.FnBalanced': WHATEVER THE INPUT: true; the input reads as it did. -/
def fnBalancedSpec : ChangeSpec := { name := "fnBalanced", fn := fun _ => fun
  | [d] => { results := [.lit (.bool true)], args := [d] }
  | _ => none }
def fnBalancedRow : OpenClaim := { program := "ytiggkgaoldhegaa", sum := "50e6750c672aa27d5876d9df9c2addcbcffe150c8a09c3dfbb8a80b6a2a24bb1", func := "loop.example/g00982/laws.FnBalanced", spec := "fnBalanced", inPlace := ["slices.overlaps[loop.example/g00982/impl.Id]"], recurses := true, apart := false }
def FnBalancedSaid : Prop := fnBalancedRow.holds Try.pinned (OpenSpec.ofChange fnBalancedSpec)

/-- ITS FALSE NEIGHBOUR: 'it returns false'. Refute it at one input. -/
def fnBalancedWrong : ChangeSpec := { name := "fnBalanced", fn := fun _ => fun
  | [d] => { results := [.lit (.bool false)], args := [d] }
  | _ => none }
def FnBalancedWrongFalsely : Prop := fnBalancedRow.holds Try.pinned (OpenSpec.ofChange fnBalancedWrong)

/-- 'laws.FnFaces': WHATEVER THE INPUT: true; the input reads as it did. -/
def fnFacesSpec : ChangeSpec := { name := "fnFaces", fn := fun _ => fun
  | [d] => { results := [.lit (.bool true)], args := [d] }
  | _ => none }
def fnFacesRow : OpenClaim := { program := "ytiggkgaoldhegaa", sum := "50e6750c672aa27d5876d9df9c2addcbcffe150c8a09c3dfbb8a80b6a2a24bb1", func := "loop.example/g00982/laws.FnFaces", spec := "fnFaces", recurses := true, apart := false }
def FnFacesSaid : Prop := fnFacesRow.holds Try.pinned (OpenSpec.ofChange fnFacesSpec)

/-- ITS FALSE NEIGHBOUR: 'it returns false'. Refute it at one input. -/
def fnFacesWrong : ChangeSpec := { name := "fnFaces", fn := fun _ => fun
  | [d] => { results := [.lit (.bool false)], args := [d] }
  | _ => none }
def FnFacesWrongFalsely : Prop := fnFacesRow.holds Try.pinned (OpenSpec.ofChange fnFacesWrong)

/-- 'laws.FnExactFaceLevel': WHATEVER THE INPUT: true; the input reads as it did. -/
def fnExactFaceLevelSpec : ChangeSpec := { name := "fnExactFaceLevel", fn := fun _ => fun
  | [d1, d2] => { results := [.lit (.bool true)], args := [d1, d2] }
  | _ => none }
def fnExactFaceLevelRow : OpenClaim := { program := "ytiggkgaoldhegaa", sum := "50e6750c672aa27d5876d9df9c2addcbcffe150c8a09c3dfbb8a80b6a2a24bb1", func := "loop.example/g00982/laws.FnExactFaceLevel", spec := "fnExactFaceLevel", apart := false }
def FnExactFaceLevelSaid : Prop := fnExactFaceLevelRow.holds Try.pinned (OpenSpec.ofChange fnExactFaceLevelSpec)

/-- ITS FALSE NEIGHBOUR: 'it returns false'. Refute it at one input. -/
def fnExactFaceLevelWrong : ChangeSpec := { name := "fnExactFaceLevel", fn := fun _ => fun
  | [d1, d2] => { results := [.lit (.bool false)], args := [d1, d2] }
  | _ => none }
def FnExactFaceLevelWrongFalsely : Prop := fnExactFaceLevelRow.holds Try.pinned (OpenSpec.ofChange fnExactFaceLevelWrong)

/-- 'laws.FnExactIsBalanced': WHATEVER THE INPUT: true; the input reads as it did. -/
def fnExactIsBalancedSpec : ChangeSpec := { name := "fnExactIsBalanced", fn := fun _ => fun
  | [d] => { results := [.lit (.bool true)], args := [d] }
  | _ => none }
def fnExactIsBalancedRow : OpenClaim := { program := "ytiggkgaoldhegaa", sum := "50e6750c672aa27d5876d9df9c2addcbcffe150c8a09c3dfbb8a80b6a2a24bb1", func := "loop.example/g00982/laws.FnExactIsBalanced", spec := "fnExactIsBalanced", apart := false }
def FnExactIsBalancedSaid : Prop := fnExactIsBalancedRow.holds Try.pinned (OpenSpec.ofChange fnExactIsBalancedSpec)

/-- ITS FALSE NEIGHBOUR: 'it returns false'. Refute it at one input. -/
def fnExactIsBalancedWrong : ChangeSpec := { name := "fnExactIsBalanced", fn := fun _ => fun
  | [d] => { results := [.lit (.bool false)], args := [d] }
  | _ => none }
def FnExactIsBalancedWrongFalsely : Prop := fnExactIsBalancedRow.holds Try.pinned (OpenSpec.ofChange fnExactIsBalancedWrong)

/-- 'laws.FnExactFirstUnbalanced': WHATEVER THE INPUT: true; the input reads as it did. -/
def fnExactFirstUnbalancedSpec : ChangeSpec := { name := "fnExactFirstUnbalanced", fn := fun _ => fun
  | [d] => { results := [.lit (.bool true)], args := [d] }
  | _ => none }
def fnExactFirstUnbalancedRow : OpenClaim := { program := "ytiggkgaoldhegaa", sum := "50e6750c672aa27d5876d9df9c2addcbcffe150c8a09c3dfbb8a80b6a2a24bb1", func := "loop.example/g00982/laws.FnExactFirstUnbalanced", spec := "fnExactFirstUnbalanced", apart := false }
def FnExactFirstUnbalancedSaid : Prop := fnExactFirstUnbalancedRow.holds Try.pinned (OpenSpec.ofChange fnExactFirstUnbalancedSpec)

/-- ITS FALSE NEIGHBOUR: 'it returns false'. Refute it at one input. -/
def fnExactFirstUnbalancedWrong : ChangeSpec := { name := "fnExactFirstUnbalanced", fn := fun _ => fun
  | [d] => { results := [.lit (.bool false)], args := [d] }
  | _ => none }
def FnExactFirstUnbalancedWrongFalsely : Prop := fnExactFirstUnbalancedRow.holds Try.pinned (OpenSpec.ofChange fnExactFirstUnbalancedWrong)

/-- 'laws.FnExactBalance': WHATEVER THE INPUT: true; the input reads as it did. -/
def fnExactBalanceSpec : ChangeSpec := { name := "fnExactBalance", fn := fun _ => fun
  | [d] => { results := [.lit (.bool true)], args := [d] }
  | _ => none }
def fnExactBalanceRow : OpenClaim := { program := "ytiggkgaoldhegaa", sum := "50e6750c672aa27d5876d9df9c2addcbcffe150c8a09c3dfbb8a80b6a2a24bb1", func := "loop.example/g00982/laws.FnExactBalance", spec := "fnExactBalance", inPlace := ["slices.overlaps[loop.example/g00982/impl.Id]"], apart := false }
def FnExactBalanceSaid : Prop := fnExactBalanceRow.holds Try.pinned (OpenSpec.ofChange fnExactBalanceSpec)

/-- ITS FALSE NEIGHBOUR: 'it returns false'. Refute it at one input. -/
def fnExactBalanceWrong : ChangeSpec := { name := "fnExactBalance", fn := fun _ => fun
  | [d] => { results := [.lit (.bool false)], args := [d] }
  | _ => none }
def FnExactBalanceWrongFalsely : Prop := fnExactBalanceRow.holds Try.pinned (OpenSpec.ofChange fnExactBalanceWrong)

/-- 'laws.FnExactCountFaces': WHATEVER THE INPUT: true; the input reads as it did. -/
def fnExactCountFacesSpec : ChangeSpec := { name := "fnExactCountFaces", fn := fun _ => fun
  | [d1, d2] => { results := [.lit (.bool true)], args := [d1, d2] }
  | _ => none }
def fnExactCountFacesRow : OpenClaim := { program := "ytiggkgaoldhegaa", sum := "50e6750c672aa27d5876d9df9c2addcbcffe150c8a09c3dfbb8a80b6a2a24bb1", func := "loop.example/g00982/laws.FnExactCountFaces", spec := "fnExactCountFaces", apart := false }
def FnExactCountFacesSaid : Prop := fnExactCountFacesRow.holds Try.pinned (OpenSpec.ofChange fnExactCountFacesSpec)

/-- ITS FALSE NEIGHBOUR: 'it returns false'. Refute it at one input. -/
def fnExactCountFacesWrong : ChangeSpec := { name := "fnExactCountFaces", fn := fun _ => fun
  | [d1, d2] => { results := [.lit (.bool false)], args := [d1, d2] }
  | _ => none }
def FnExactCountFacesWrongFalsely : Prop := fnExactCountFacesRow.holds Try.pinned (OpenSpec.ofChange fnExactCountFacesWrong)

/- THE SECOND FORM. 'bulk': how many values and letters a reading holds, each counted each time it is reached (what is shared counts as often as it is met; a slice's spare places count too). A statement '..UptoSaid' is the law's where the arguments, and the package variables that the reading takes, are together of bulk at most 1048576: NARROWER than '..Said'. Prove '..Said' where nothing that the law and all that it calls make is longer than what came in: it says more and counts as full. Else prove '..UptoSaid'. A law counts once. -/
mutual
def uptoBulk {H : Type} : DataW H → Nat
  | .lit (.string bytes) => bytes.length + 1
  | .lit _ => 1
  | .nil => 1
  | .ptr d => uptoBulk d + 1
  | .slice elems spare => uptoBulkAll elems + uptoBulkAll spare + 1
  | .agg parts => uptoBulkAll parts + 1
  | .iface _ d => uptoBulk d + 1
  | .map entries => uptoBulkEntries entries + 1
  | .held _ => 1
def uptoBulkAll {H : Type} : List (DataW H) → Nat
  | [] => 0
  | d :: r => uptoBulk d + uptoBulkAll r
def uptoBulkEntries {H : Type} : List (Lit × DataW H) → Nat
  | [] => 0
  | x :: r => uptoBulkEntry x + uptoBulkEntries r
def uptoBulkEntry {H : Type} : Lit × DataW H → Nat
  | (.string bytes, d) => bytes.length + uptoBulk d + 1
  | (_, d) => uptoBulk d + 1
 end
def uptoSmall : (H : Type) → List (DataW H) → Bool := fun _ ds => decide (uptoBulkAll ds ≤ 1048576)
def OpenSpec.upto (s : _root_.Go.ChangeSpec) : _root_.Go.OpenSpec := { _root_.Go.OpenSpec.ofChange s with cond := some uptoSmall }

/-- 'laws.FnBalanced', WHERE WHAT IT READS IS OF BULK AT MOST 1048576: true; the input reads as it did. -/
def fnBalancedUptoRow : OpenClaim := { program := "ytiggkgaoldhegaa", sum := "50e6750c672aa27d5876d9df9c2addcbcffe150c8a09c3dfbb8a80b6a2a24bb1", func := "loop.example/g00982/laws.FnBalanced", spec := "fnBalanced", inPlace := ["slices.overlaps[loop.example/g00982/impl.Id]"], recurses := true, apart := false, narrowed := true }
def FnBalancedUptoSaid : Prop := fnBalancedUptoRow.holds Try.pinned (OpenSpec.upto fnBalancedSpec)

/-- 'laws.FnFaces', WHERE WHAT IT READS IS OF BULK AT MOST 1048576: true; the input reads as it did. -/
def fnFacesUptoRow : OpenClaim := { program := "ytiggkgaoldhegaa", sum := "50e6750c672aa27d5876d9df9c2addcbcffe150c8a09c3dfbb8a80b6a2a24bb1", func := "loop.example/g00982/laws.FnFaces", spec := "fnFaces", recurses := true, apart := false, narrowed := true }
def FnFacesUptoSaid : Prop := fnFacesUptoRow.holds Try.pinned (OpenSpec.upto fnFacesSpec)

/-- 'laws.FnExactFaceLevel', WHERE WHAT IT READS IS OF BULK AT MOST 1048576: true; the input reads as it did. -/
def fnExactFaceLevelUptoRow : OpenClaim := { program := "ytiggkgaoldhegaa", sum := "50e6750c672aa27d5876d9df9c2addcbcffe150c8a09c3dfbb8a80b6a2a24bb1", func := "loop.example/g00982/laws.FnExactFaceLevel", spec := "fnExactFaceLevel", apart := false, narrowed := true }
def FnExactFaceLevelUptoSaid : Prop := fnExactFaceLevelUptoRow.holds Try.pinned (OpenSpec.upto fnExactFaceLevelSpec)

/-- 'laws.FnExactIsBalanced', WHERE WHAT IT READS IS OF BULK AT MOST 1048576: true; the input reads as it did. -/
def fnExactIsBalancedUptoRow : OpenClaim := { program := "ytiggkgaoldhegaa", sum := "50e6750c672aa27d5876d9df9c2addcbcffe150c8a09c3dfbb8a80b6a2a24bb1", func := "loop.example/g00982/laws.FnExactIsBalanced", spec := "fnExactIsBalanced", apart := false, narrowed := true }
def FnExactIsBalancedUptoSaid : Prop := fnExactIsBalancedUptoRow.holds Try.pinned (OpenSpec.upto fnExactIsBalancedSpec)

/-- 'laws.FnExactFirstUnbalanced', WHERE WHAT IT READS IS OF BULK AT MOST 1048576: true; the input reads as it did. -/
def fnExactFirstUnbalancedUptoRow : OpenClaim := { program := "ytiggkgaoldhegaa", sum := "50e6750c672aa27d5876d9df9c2addcbcffe150c8a09c3dfbb8a80b6a2a24bb1", func := "loop.example/g00982/laws.FnExactFirstUnbalanced", spec := "fnExactFirstUnbalanced", apart := false, narrowed := true }
def FnExactFirstUnbalancedUptoSaid : Prop := fnExactFirstUnbalancedUptoRow.holds Try.pinned (OpenSpec.upto fnExactFirstUnbalancedSpec)

/-- 'laws.FnExactBalance', WHERE WHAT IT READS IS OF BULK AT MOST 1048576: true; the input reads as it did. -/
def fnExactBalanceUptoRow : OpenClaim := { program := "ytiggkgaoldhegaa", sum := "50e6750c672aa27d5876d9df9c2addcbcffe150c8a09c3dfbb8a80b6a2a24bb1", func := "loop.example/g00982/laws.FnExactBalance", spec := "fnExactBalance", inPlace := ["slices.overlaps[loop.example/g00982/impl.Id]"], apart := false, narrowed := true }
def FnExactBalanceUptoSaid : Prop := fnExactBalanceUptoRow.holds Try.pinned (OpenSpec.upto fnExactBalanceSpec)

/-- 'laws.FnExactCountFaces', WHERE WHAT IT READS IS OF BULK AT MOST 1048576: true; the input reads as it did. -/
def fnExactCountFacesUptoRow : OpenClaim := { program := "ytiggkgaoldhegaa", sum := "50e6750c672aa27d5876d9df9c2addcbcffe150c8a09c3dfbb8a80b6a2a24bb1", func := "loop.example/g00982/laws.FnExactCountFaces", spec := "fnExactCountFaces", apart := false, narrowed := true }
def FnExactCountFacesUptoSaid : Prop := fnExactCountFacesUptoRow.holds Try.pinned (OpenSpec.upto fnExactCountFacesSpec)

end Rows
end Go.Proofs.Ytiggkgaoldhegaa
