/-
  No cell of these rows narrows 'for every input' (looked for: loops, veiled, ifaces, maps, wideKeys, modest, calm, conditions, laid).
  DERIVED. THE GIVEN ROWS OF THIS SEAT. 7 by the template 'for every input the law returns true; each argument reads behind the call as it read before'; 0 by the template 'total and deterministic' (their statements: YtcdkhapepabpkaaTotals.lean).
  GIVEN WITH THE SEED: the statements are not yours to turn. If you find one false, say at which input.
  Laid BY PROGRAM, IN A SANDBOX (cutbox-rows.mjs): the forced cells as the released guide's own fill.sh prints them over the translation 1524f1f6b4d23a01… (all of the seat's roots in one cut). By AI agents, Wed Nov 11 2026. No macro, syntax, notation, axiom, sorry.
-/
import Derived.Test.YtcdkhapepabpkaaChecked
import GoSem.Claim
import GoSem.ClaimJoined
import GoSem.ClaimMapViews
import Derived.JoinedTies
import Derived.KernelRfl
namespace Go.Proofs.Ytcdkhapepabpkaa
/- THE CELL 'sum', in the pinned program and in every row, IS THE sha256 OF THE DUMP (.gsa) THAT YtcdkhapepabpkaaProg.lean LOADS. Nothing in Lean hashes anything: it is a label: what it is worth is what the hold of that sum in a sandbox is worth. -/
noncomputable def Try.pinned : Pinned := { name := "ytcdkhapepabpkaa", sum := "1524f1f6b4d23a01b811a0cedd04808c0650f57faad8517c8ab1bf0c6734be3e", checked := Try.checked }
namespace Rows
def none {H : Type} : Left H := { results := [], args := [] }

/-- 'laws.FnFilled': WHATEVER THE INPUT: true; the input reads as it did. -/
def fnFilledSpec : ChangeSpec := { name := "fnFilled", fn := fun _ => fun
  | [d] => { results := [.lit (.bool true)], args := [d] }
  | _ => none }
def fnFilledRow : OpenClaim := { program := "ytcdkhapepabpkaa", sum := "1524f1f6b4d23a01b811a0cedd04808c0650f57faad8517c8ab1bf0c6734be3e", func := "loop.example/g00982/laws.FnFilled", spec := "fnFilled", unfollowed := true, recurses := true, apart := false }
def FnFilledSaid : Prop := fnFilledRow.holds Try.pinned (OpenSpec.ofChange fnFilledSpec)

/-- ITS FALSE NEIGHBOUR: 'it returns false'. Refute it at one input. -/
def fnFilledWrong : ChangeSpec := { name := "fnFilled", fn := fun _ => fun
  | [d] => { results := [.lit (.bool false)], args := [d] }
  | _ => none }
def FnFilledWrongFalsely : Prop := fnFilledRow.holds Try.pinned (OpenSpec.ofChange fnFilledWrong)

/-- 'laws.FnPut': WHATEVER THE INPUT: true; the input reads as it did. -/
def fnPutSpec : ChangeSpec := { name := "fnPut", fn := fun _ => fun
  | [d] => { results := [.lit (.bool true)], args := [d] }
  | _ => none }
def fnPutRow : OpenClaim := { program := "ytcdkhapepabpkaa", sum := "1524f1f6b4d23a01b811a0cedd04808c0650f57faad8517c8ab1bf0c6734be3e", func := "loop.example/g00982/laws.FnPut", spec := "fnPut", recurses := true, apart := false }
def FnPutSaid : Prop := fnPutRow.holds Try.pinned (OpenSpec.ofChange fnPutSpec)

/-- ITS FALSE NEIGHBOUR: 'it returns false'. Refute it at one input. -/
def fnPutWrong : ChangeSpec := { name := "fnPut", fn := fun _ => fun
  | [d] => { results := [.lit (.bool false)], args := [d] }
  | _ => none }
def FnPutWrongFalsely : Prop := fnPutRow.holds Try.pinned (OpenSpec.ofChange fnPutWrong)

/-- 'laws.FnExactStateOk': WHATEVER THE INPUT: true; the input reads as it did. -/
def fnExactStateOkSpec : ChangeSpec := { name := "fnExactStateOk", fn := fun _ => fun
  | [d] => { results := [.lit (.bool true)], args := [d] }
  | _ => none }
def fnExactStateOkRow : OpenClaim := { program := "ytcdkhapepabpkaa", sum := "1524f1f6b4d23a01b811a0cedd04808c0650f57faad8517c8ab1bf0c6734be3e", func := "loop.example/g00982/laws.FnExactStateOk", spec := "fnExactStateOk", apart := false }
def FnExactStateOkSaid : Prop := fnExactStateOkRow.holds Try.pinned (OpenSpec.ofChange fnExactStateOkSpec)

/-- ITS FALSE NEIGHBOUR: 'it returns false'. Refute it at one input. -/
def fnExactStateOkWrong : ChangeSpec := { name := "fnExactStateOk", fn := fun _ => fun
  | [d] => { results := [.lit (.bool false)], args := [d] }
  | _ => none }
def FnExactStateOkWrongFalsely : Prop := fnExactStateOkRow.holds Try.pinned (OpenSpec.ofChange fnExactStateOkWrong)

/-- 'laws.FnExactFillState': WHATEVER THE INPUT: true; the input reads as it did. -/
def fnExactFillStateSpec : ChangeSpec := { name := "fnExactFillState", fn := fun _ => fun
  | [d1, d2, d3] => { results := [.lit (.bool true)], args := [d1, d2, d3] }
  | _ => none }
def fnExactFillStateRow : OpenClaim := { program := "ytcdkhapepabpkaa", sum := "1524f1f6b4d23a01b811a0cedd04808c0650f57faad8517c8ab1bf0c6734be3e", func := "loop.example/g00982/laws.FnExactFillState", spec := "fnExactFillState", unfollowed := true, recurses := true, apart := false }
def FnExactFillStateSaid : Prop := fnExactFillStateRow.holds Try.pinned (OpenSpec.ofChange fnExactFillStateSpec)

/-- ITS FALSE NEIGHBOUR: 'it returns false'. Refute it at one input. -/
def fnExactFillStateWrong : ChangeSpec := { name := "fnExactFillState", fn := fun _ => fun
  | [d1, d2, d3] => { results := [.lit (.bool false)], args := [d1, d2, d3] }
  | _ => none }
def FnExactFillStateWrongFalsely : Prop := fnExactFillStateRow.holds Try.pinned (OpenSpec.ofChange fnExactFillStateWrong)

/-- 'laws.FnExactTotalMass': WHATEVER THE INPUT: true; the input reads as it did. -/
def fnExactTotalMassSpec : ChangeSpec := { name := "fnExactTotalMass", fn := fun _ => fun
  | [d] => { results := [.lit (.bool true)], args := [d] }
  | _ => none }
def fnExactTotalMassRow : OpenClaim := { program := "ytcdkhapepabpkaa", sum := "1524f1f6b4d23a01b811a0cedd04808c0650f57faad8517c8ab1bf0c6734be3e", func := "loop.example/g00982/laws.FnExactTotalMass", spec := "fnExactTotalMass", apart := false }
def FnExactTotalMassSaid : Prop := fnExactTotalMassRow.holds Try.pinned (OpenSpec.ofChange fnExactTotalMassSpec)

/-- ITS FALSE NEIGHBOUR: 'it returns false'. Refute it at one input. -/
def fnExactTotalMassWrong : ChangeSpec := { name := "fnExactTotalMass", fn := fun _ => fun
  | [d] => { results := [.lit (.bool false)], args := [d] }
  | _ => none }
def FnExactTotalMassWrongFalsely : Prop := fnExactTotalMassRow.holds Try.pinned (OpenSpec.ofChange fnExactTotalMassWrong)

/-- 'laws.FnExactTotalTracer': WHATEVER THE INPUT: true; the input reads as it did. -/
def fnExactTotalTracerSpec : ChangeSpec := { name := "fnExactTotalTracer", fn := fun _ => fun
  | [d] => { results := [.lit (.bool true)], args := [d] }
  | _ => none }
def fnExactTotalTracerRow : OpenClaim := { program := "ytcdkhapepabpkaa", sum := "1524f1f6b4d23a01b811a0cedd04808c0650f57faad8517c8ab1bf0c6734be3e", func := "loop.example/g00982/laws.FnExactTotalTracer", spec := "fnExactTotalTracer", apart := false }
def FnExactTotalTracerSaid : Prop := fnExactTotalTracerRow.holds Try.pinned (OpenSpec.ofChange fnExactTotalTracerSpec)

/-- ITS FALSE NEIGHBOUR: 'it returns false'. Refute it at one input. -/
def fnExactTotalTracerWrong : ChangeSpec := { name := "fnExactTotalTracer", fn := fun _ => fun
  | [d] => { results := [.lit (.bool false)], args := [d] }
  | _ => none }
def FnExactTotalTracerWrongFalsely : Prop := fnExactTotalTracerRow.holds Try.pinned (OpenSpec.ofChange fnExactTotalTracerWrong)

/-- 'laws.FnExactPutCell': WHATEVER THE INPUT: true; the input reads as it did. -/
def fnExactPutCellSpec : ChangeSpec := { name := "fnExactPutCell", fn := fun _ => fun
  | [d1, d2, d3, d4] => { results := [.lit (.bool true)], args := [d1, d2, d3, d4] }
  | _ => none }
def fnExactPutCellRow : OpenClaim := { program := "ytcdkhapepabpkaa", sum := "1524f1f6b4d23a01b811a0cedd04808c0650f57faad8517c8ab1bf0c6734be3e", func := "loop.example/g00982/laws.FnExactPutCell", spec := "fnExactPutCell", apart := false }
def FnExactPutCellSaid : Prop := fnExactPutCellRow.holds Try.pinned (OpenSpec.ofChange fnExactPutCellSpec)

/-- ITS FALSE NEIGHBOUR: 'it returns false'. Refute it at one input. -/
def fnExactPutCellWrong : ChangeSpec := { name := "fnExactPutCell", fn := fun _ => fun
  | [d1, d2, d3, d4] => { results := [.lit (.bool false)], args := [d1, d2, d3, d4] }
  | _ => none }
def FnExactPutCellWrongFalsely : Prop := fnExactPutCellRow.holds Try.pinned (OpenSpec.ofChange fnExactPutCellWrong)

/- THE SECOND FORM. 'bulk': how many values and letters a reading holds, each counted each time it is reached (what is shared counts as often as it is met; a slice's spare places count too). A statement '..UptoSaid' is the law's where the arguments, and the package variables that the reading takes, are together of bulk at most 1048576: NARROWER than '..Said'. Prove '..Said' where nothing that the law and all that it calls make is longer than what came in: it says more and counts as full. Else prove '..UptoSaid'. A law counts once. -/
mutual
def uptoBulk {H : Type} : DataW H → Nat
  | .lit (.string bytes) => bytes.length + 1
  | .lit _ => 1
  | .nil => 1
  | .ptr d => uptoBulk d + 1
  | .slice elems spare => uptoBulkAll elems + uptoBulkAll spare + 1
  | .agg parts => uptoBulkAll parts + 1
  | .iface _ d => uptoBulk d + 1
  | .map entries => uptoBulkEntries entries + 1
  | .held _ => 1
def uptoBulkAll {H : Type} : List (DataW H) → Nat
  | [] => 0
  | d :: r => uptoBulk d + uptoBulkAll r
def uptoBulkEntries {H : Type} : List (Lit × DataW H) → Nat
  | [] => 0
  | x :: r => uptoBulkEntry x + uptoBulkEntries r
def uptoBulkEntry {H : Type} : Lit × DataW H → Nat
  | (.string bytes, d) => bytes.length + uptoBulk d + 1
  | (_, d) => uptoBulk d + 1
 end
def uptoSmall : (H : Type) → List (DataW H) → Bool := fun _ ds => decide (uptoBulkAll ds ≤ 1048576)
def OpenSpec.upto (s : _root_.Go.ChangeSpec) : _root_.Go.OpenSpec := { _root_.Go.OpenSpec.ofChange s with cond := some uptoSmall }

/-- 'laws.FnFilled', WHERE WHAT IT READS IS OF BULK AT MOST 1048576: true; the input reads as it did. -/
def fnFilledUptoRow : OpenClaim := { program := "ytcdkhapepabpkaa", sum := "1524f1f6b4d23a01b811a0cedd04808c0650f57faad8517c8ab1bf0c6734be3e", func := "loop.example/g00982/laws.FnFilled", spec := "fnFilled", unfollowed := true, recurses := true, apart := false, narrowed := true }
def FnFilledUptoSaid : Prop := fnFilledUptoRow.holds Try.pinned (OpenSpec.upto fnFilledSpec)

/-- 'laws.FnPut', WHERE WHAT IT READS IS OF BULK AT MOST 1048576: true; the input reads as it did. -/
def fnPutUptoRow : OpenClaim := { program := "ytcdkhapepabpkaa", sum := "1524f1f6b4d23a01b811a0cedd04808c0650f57faad8517c8ab1bf0c6734be3e", func := "loop.example/g00982/laws.FnPut", spec := "fnPut", recurses := true, apart := false, narrowed := true }
def FnPutUptoSaid : Prop := fnPutUptoRow.holds Try.pinned (OpenSpec.upto fnPutSpec)

/-- 'laws.FnExactStateOk', WHERE WHAT IT READS IS OF BULK AT MOST 1048576: true; the input reads as it did. -/
def fnExactStateOkUptoRow : OpenClaim := { program := "ytcdkhapepabpkaa", sum := "1524f1f6b4d23a01b811a0cedd04808c0650f57faad8517c8ab1bf0c6734be3e", func := "loop.example/g00982/laws.FnExactStateOk", spec := "fnExactStateOk", apart := false, narrowed := true }
def FnExactStateOkUptoSaid : Prop := fnExactStateOkUptoRow.holds Try.pinned (OpenSpec.upto fnExactStateOkSpec)

/-- 'laws.FnExactFillState', WHERE WHAT IT READS IS OF BULK AT MOST 1048576: true; the input reads as it did. -/
def fnExactFillStateUptoRow : OpenClaim := { program := "ytcdkhapepabpkaa", sum := "1524f1f6b4d23a01b811a0cedd04808c0650f57faad8517c8ab1bf0c6734be3e", func := "loop.example/g00982/laws.FnExactFillState", spec := "fnExactFillState", unfollowed := true, recurses := true, apart := false, narrowed := true }
def FnExactFillStateUptoSaid : Prop := fnExactFillStateUptoRow.holds Try.pinned (OpenSpec.upto fnExactFillStateSpec)

/-- 'laws.FnExactTotalMass', WHERE WHAT IT READS IS OF BULK AT MOST 1048576: true; the input reads as it did. -/
def fnExactTotalMassUptoRow : OpenClaim := { program := "ytcdkhapepabpkaa", sum := "1524f1f6b4d23a01b811a0cedd04808c0650f57faad8517c8ab1bf0c6734be3e", func := "loop.example/g00982/laws.FnExactTotalMass", spec := "fnExactTotalMass", apart := false, narrowed := true }
def FnExactTotalMassUptoSaid : Prop := fnExactTotalMassUptoRow.holds Try.pinned (OpenSpec.upto fnExactTotalMassSpec)

/-- 'laws.FnExactTotalTracer', WHERE WHAT IT READS IS OF BULK AT MOST 1048576: true; the input reads as it did. -/
def fnExactTotalTracerUptoRow : OpenClaim := { program := "ytcdkhapepabpkaa", sum := "1524f1f6b4d23a01b811a0cedd04808c0650f57faad8517c8ab1bf0c6734be3e", func := "loop.example/g00982/laws.FnExactTotalTracer", spec := "fnExactTotalTracer", apart := false, narrowed := true }
def FnExactTotalTracerUptoSaid : Prop := fnExactTotalTracerUptoRow.holds Try.pinned (OpenSpec.upto fnExactTotalTracerSpec)

/-- 'laws.FnExactPutCell', WHERE WHAT IT READS IS OF BULK AT MOST 1048576: true; the input reads as it did. -/
def fnExactPutCellUptoRow : OpenClaim := { program := "ytcdkhapepabpkaa", sum := "1524f1f6b4d23a01b811a0cedd04808c0650f57faad8517c8ab1bf0c6734be3e", func := "loop.example/g00982/laws.FnExactPutCell", spec := "fnExactPutCell", apart := false, narrowed := true }
def FnExactPutCellUptoSaid : Prop := fnExactPutCellUptoRow.holds Try.pinned (OpenSpec.upto fnExactPutCellSpec)

end Rows
end Go.Proofs.Ytcdkhapepabpkaa
