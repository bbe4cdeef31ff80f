/-
  No cell of these rows narrows 'for every input' (looked for: loops, veiled, ifaces, maps, wideKeys, modest, calm, conditions, laid).
  DERIVED. THE GIVEN ROWS OF THIS SEAT. 6 by the template 'for every input the law returns true; each argument reads behind the call as it read before'; 0 by the template 'total and deterministic' (their statements: YtnelgnfahkljmaaTotals.lean).
  GIVEN WITH THE SEED: the statements are not yours to turn. If you find one false, say at which input.
  Laid BY PROGRAM, IN A SANDBOX (cutbox-rows.mjs): the forced cells as the released guide's own fill.sh prints them over the translation e4c292848c682cf5… (all of the seat's roots in one cut). By AI agents, Wed Nov 11 2026. No macro, syntax, notation, axiom, sorry.
-/
import Derived.Test.YtnelgnfahkljmaaChecked
import GoSem.Claim
import GoSem.ClaimJoined
import GoSem.ClaimMapViews
import Derived.JoinedTies
import Derived.KernelRfl
namespace Go.Proofs.Ytnelgnfahkljmaa
/- THE CELL 'sum', in the pinned program and in every row, IS THE sha256 OF THE DUMP (.gsa) THAT YtnelgnfahkljmaaProg.lean LOADS. Nothing in Lean hashes anything: it is a label: what it is worth is what the hold of that sum in a sandbox is worth. -/
noncomputable def Try.pinned : Pinned := { name := "ytnelgnfahkljmaa", sum := "e4c292848c682cf599d39687f1b962b14586ffb954a8481cdd2badf0b1c09d8f", checked := Try.checked }
namespace Rows
def none {H : Type} : Left H := { results := [], args := [] }

/-- 'laws.FnLakes': WHATEVER THE INPUT: true; the input reads as it did. -/
def fnLakesSpec : ChangeSpec := { name := "fnLakes", fn := fun _ => fun
  | [d] => { results := [.lit (.bool true)], args := [d] }
  | _ => none }
def fnLakesRow : OpenClaim := { program := "ytnelgnfahkljmaa", sum := "e4c292848c682cf599d39687f1b962b14586ffb954a8481cdd2badf0b1c09d8f", func := "loop.example/g00982/laws.FnLakes", spec := "fnLakes", unfollowed := true, recurses := true, apart := false }
def FnLakesSaid : Prop := fnLakesRow.holds Try.pinned (OpenSpec.ofChange fnLakesSpec)

/-- ITS FALSE NEIGHBOUR: 'it returns false'. Refute it at one input. -/
def fnLakesWrong : ChangeSpec := { name := "fnLakes", fn := fun _ => fun
  | [d] => { results := [.lit (.bool false)], args := [d] }
  | _ => none }
def FnLakesWrongFalsely : Prop := fnLakesRow.holds Try.pinned (OpenSpec.ofChange fnLakesWrong)

/-- 'laws.FnRest': WHATEVER THE INPUT: true; the input reads as it did. -/
def fnRestSpec : ChangeSpec := { name := "fnRest", fn := fun _ => fun
  | [d] => { results := [.lit (.bool true)], args := [d] }
  | _ => none }
def fnRestRow : OpenClaim := { program := "ytnelgnfahkljmaa", sum := "e4c292848c682cf599d39687f1b962b14586ffb954a8481cdd2badf0b1c09d8f", func := "loop.example/g00982/laws.FnRest", spec := "fnRest", unfollowed := true, recurses := true, apart := false }
def FnRestSaid : Prop := fnRestRow.holds Try.pinned (OpenSpec.ofChange fnRestSpec)

/-- ITS FALSE NEIGHBOUR: 'it returns false'. Refute it at one input. -/
def fnRestWrong : ChangeSpec := { name := "fnRest", fn := fun _ => fun
  | [d] => { results := [.lit (.bool false)], args := [d] }
  | _ => none }
def FnRestWrongFalsely : Prop := fnRestRow.holds Try.pinned (OpenSpec.ofChange fnRestWrong)

/-- 'laws.FnExactIsAtRest': WHATEVER THE INPUT: true; the input reads as it did. -/
def fnExactIsAtRestSpec : ChangeSpec := { name := "fnExactIsAtRest", fn := fun _ => fun
  | [d] => { results := [.lit (.bool true)], args := [d] }
  | _ => none }
def fnExactIsAtRestRow : OpenClaim := { program := "ytnelgnfahkljmaa", sum := "e4c292848c682cf599d39687f1b962b14586ffb954a8481cdd2badf0b1c09d8f", func := "loop.example/g00982/laws.FnExactIsAtRest", spec := "fnExactIsAtRest", unfollowed := true, recurses := true, apart := false }
def FnExactIsAtRestSaid : Prop := fnExactIsAtRestRow.holds Try.pinned (OpenSpec.ofChange fnExactIsAtRestSpec)

/-- ITS FALSE NEIGHBOUR: 'it returns false'. Refute it at one input. -/
def fnExactIsAtRestWrong : ChangeSpec := { name := "fnExactIsAtRest", fn := fun _ => fun
  | [d] => { results := [.lit (.bool false)], args := [d] }
  | _ => none }
def FnExactIsAtRestWrongFalsely : Prop := fnExactIsAtRestRow.holds Try.pinned (OpenSpec.ofChange fnExactIsAtRestWrong)

/-- 'laws.FnExactIsLevelWithin': WHATEVER THE INPUT: true; the input reads as it did. -/
def fnExactIsLevelWithinSpec : ChangeSpec := { name := "fnExactIsLevelWithin", fn := fun _ => fun
  | [d1, d2] => { results := [.lit (.bool true)], args := [d1, d2] }
  | _ => none }
def fnExactIsLevelWithinRow : OpenClaim := { program := "ytnelgnfahkljmaa", sum := "e4c292848c682cf599d39687f1b962b14586ffb954a8481cdd2badf0b1c09d8f", func := "loop.example/g00982/laws.FnExactIsLevelWithin", spec := "fnExactIsLevelWithin", unfollowed := true, recurses := true, apart := false }
def FnExactIsLevelWithinSaid : Prop := fnExactIsLevelWithinRow.holds Try.pinned (OpenSpec.ofChange fnExactIsLevelWithinSpec)

/-- ITS FALSE NEIGHBOUR: 'it returns false'. Refute it at one input. -/
def fnExactIsLevelWithinWrong : ChangeSpec := { name := "fnExactIsLevelWithin", fn := fun _ => fun
  | [d1, d2] => { results := [.lit (.bool false)], args := [d1, d2] }
  | _ => none }
def FnExactIsLevelWithinWrongFalsely : Prop := fnExactIsLevelWithinRow.holds Try.pinned (OpenSpec.ofChange fnExactIsLevelWithinWrong)

/-- 'laws.FnExactDryLeaves': WHATEVER THE INPUT: true; the input reads as it did. -/
def fnExactDryLeavesSpec : ChangeSpec := { name := "fnExactDryLeaves", fn := fun _ => fun
  | [d] => { results := [.lit (.bool true)], args := [d] }
  | _ => none }
def fnExactDryLeavesRow : OpenClaim := { program := "ytnelgnfahkljmaa", sum := "e4c292848c682cf599d39687f1b962b14586ffb954a8481cdd2badf0b1c09d8f", func := "loop.example/g00982/laws.FnExactDryLeaves", spec := "fnExactDryLeaves", apart := false }
def FnExactDryLeavesSaid : Prop := fnExactDryLeavesRow.holds Try.pinned (OpenSpec.ofChange fnExactDryLeavesSpec)

/-- ITS FALSE NEIGHBOUR: 'it returns false'. Refute it at one input. -/
def fnExactDryLeavesWrong : ChangeSpec := { name := "fnExactDryLeaves", fn := fun _ => fun
  | [d] => { results := [.lit (.bool false)], args := [d] }
  | _ => none }
def FnExactDryLeavesWrongFalsely : Prop := fnExactDryLeavesRow.holds Try.pinned (OpenSpec.ofChange fnExactDryLeavesWrong)

/-- 'laws.FnExactWaterLine': WHATEVER THE INPUT: true; the input reads as it did. -/
def fnExactWaterLineSpec : ChangeSpec := { name := "fnExactWaterLine", fn := fun _ => fun
  | [d] => { results := [.lit (.bool true)], args := [d] }
  | _ => none }
def fnExactWaterLineRow : OpenClaim := { program := "ytnelgnfahkljmaa", sum := "e4c292848c682cf599d39687f1b962b14586ffb954a8481cdd2badf0b1c09d8f", func := "loop.example/g00982/laws.FnExactWaterLine", spec := "fnExactWaterLine", apart := false }
def FnExactWaterLineSaid : Prop := fnExactWaterLineRow.holds Try.pinned (OpenSpec.ofChange fnExactWaterLineSpec)

/-- ITS FALSE NEIGHBOUR: 'it returns false'. Refute it at one input. -/
def fnExactWaterLineWrong : ChangeSpec := { name := "fnExactWaterLine", fn := fun _ => fun
  | [d] => { results := [.lit (.bool false)], args := [d] }
  | _ => none }
def FnExactWaterLineWrongFalsely : Prop := fnExactWaterLineRow.holds Try.pinned (OpenSpec.ofChange fnExactWaterLineWrong)

/- THE SECOND FORM. 'bulk': how many values and letters a reading holds, each counted each time it is reached (what is shared counts as often as it is met; a slice's spare places count too). A statement '..UptoSaid' is the law's where the arguments, and the package variables that the reading takes, are together of bulk at most 1048576: NARROWER than '..Said'. Prove '..Said' where nothing that the law and all that it calls make is longer than what came in: it says more and counts as full. Else prove '..UptoSaid'. A law counts once. -/
mutual
def uptoBulk {H : Type} : DataW H → Nat
  | .lit (.string bytes) => bytes.length + 1
  | .lit _ => 1
  | .nil => 1
  | .ptr d => uptoBulk d + 1
  | .slice elems spare => uptoBulkAll elems + uptoBulkAll spare + 1
  | .agg parts => uptoBulkAll parts + 1
  | .iface _ d => uptoBulk d + 1
  | .map entries => uptoBulkEntries entries + 1
  | .held _ => 1
def uptoBulkAll {H : Type} : List (DataW H) → Nat
  | [] => 0
  | d :: r => uptoBulk d + uptoBulkAll r
def uptoBulkEntries {H : Type} : List (Lit × DataW H) → Nat
  | [] => 0
  | x :: r => uptoBulkEntry x + uptoBulkEntries r
def uptoBulkEntry {H : Type} : Lit × DataW H → Nat
  | (.string bytes, d) => bytes.length + uptoBulk d + 1
  | (_, d) => uptoBulk d + 1
 end
def uptoSmall : (H : Type) → List (DataW H) → Bool := fun _ ds => decide (uptoBulkAll ds ≤ 1048576)
def OpenSpec.upto (s : _root_.Go.ChangeSpec) : _root_.Go.OpenSpec := { _root_.Go.OpenSpec.ofChange s with cond := some uptoSmall }

/-- 'laws.FnLakes', WHERE WHAT IT READS IS OF BULK AT MOST 1048576: true; the input reads as it did. -/
def fnLakesUptoRow : OpenClaim := { program := "ytnelgnfahkljmaa", sum := "e4c292848c682cf599d39687f1b962b14586ffb954a8481cdd2badf0b1c09d8f", func := "loop.example/g00982/laws.FnLakes", spec := "fnLakes", unfollowed := true, recurses := true, apart := false, narrowed := true }
def FnLakesUptoSaid : Prop := fnLakesUptoRow.holds Try.pinned (OpenSpec.upto fnLakesSpec)

/-- 'laws.FnRest', WHERE WHAT IT READS IS OF BULK AT MOST 1048576: true; the input reads as it did. -/
def fnRestUptoRow : OpenClaim := { program := "ytnelgnfahkljmaa", sum := "e4c292848c682cf599d39687f1b962b14586ffb954a8481cdd2badf0b1c09d8f", func := "loop.example/g00982/laws.FnRest", spec := "fnRest", unfollowed := true, recurses := true, apart := false, narrowed := true }
def FnRestUptoSaid : Prop := fnRestUptoRow.holds Try.pinned (OpenSpec.upto fnRestSpec)

/-- 'laws.FnExactIsAtRest', WHERE WHAT IT READS IS OF BULK AT MOST 1048576: true; the input reads as it did. -/
def fnExactIsAtRestUptoRow : OpenClaim := { program := "ytnelgnfahkljmaa", sum := "e4c292848c682cf599d39687f1b962b14586ffb954a8481cdd2badf0b1c09d8f", func := "loop.example/g00982/laws.FnExactIsAtRest", spec := "fnExactIsAtRest", unfollowed := true, recurses := true, apart := false, narrowed := true }
def FnExactIsAtRestUptoSaid : Prop := fnExactIsAtRestUptoRow.holds Try.pinned (OpenSpec.upto fnExactIsAtRestSpec)

/-- 'laws.FnExactIsLevelWithin', WHERE WHAT IT READS IS OF BULK AT MOST 1048576: true; the input reads as it did. -/
def fnExactIsLevelWithinUptoRow : OpenClaim := { program := "ytnelgnfahkljmaa", sum := "e4c292848c682cf599d39687f1b962b14586ffb954a8481cdd2badf0b1c09d8f", func := "loop.example/g00982/laws.FnExactIsLevelWithin", spec := "fnExactIsLevelWithin", unfollowed := true, recurses := true, apart := false, narrowed := true }
def FnExactIsLevelWithinUptoSaid : Prop := fnExactIsLevelWithinUptoRow.holds Try.pinned (OpenSpec.upto fnExactIsLevelWithinSpec)

/-- 'laws.FnExactDryLeaves', WHERE WHAT IT READS IS OF BULK AT MOST 1048576: true; the input reads as it did. -/
def fnExactDryLeavesUptoRow : OpenClaim := { program := "ytnelgnfahkljmaa", sum := "e4c292848c682cf599d39687f1b962b14586ffb954a8481cdd2badf0b1c09d8f", func := "loop.example/g00982/laws.FnExactDryLeaves", spec := "fnExactDryLeaves", apart := false, narrowed := true }
def FnExactDryLeavesUptoSaid : Prop := fnExactDryLeavesUptoRow.holds Try.pinned (OpenSpec.upto fnExactDryLeavesSpec)

/-- 'laws.FnExactWaterLine', WHERE WHAT IT READS IS OF BULK AT MOST 1048576: true; the input reads as it did. -/
def fnExactWaterLineUptoRow : OpenClaim := { program := "ytnelgnfahkljmaa", sum := "e4c292848c682cf599d39687f1b962b14586ffb954a8481cdd2badf0b1c09d8f", func := "loop.example/g00982/laws.FnExactWaterLine", spec := "fnExactWaterLine", apart := false, narrowed := true }
def FnExactWaterLineUptoSaid : Prop := fnExactWaterLineUptoRow.holds Try.pinned (OpenSpec.upto fnExactWaterLineSpec)

end Rows
end Go.Proofs.Ytnelgnfahkljmaa
