/-
  No cell of these rows narrows 'for every input' (looked for: loops, veiled, ifaces, maps, wideKeys, modest, calm, conditions, laid).
  DERIVED. THE GIVEN ROWS OF THIS SEAT. 9 by the template 'for every input the law returns true; each argument reads behind the call as it read before'; 0 by the template 'total and deterministic' (their statements: YtnaofcbbdlhjpaaTotals.lean).
  GIVEN WITH THE SEED: the statements are not yours to turn. If you find one false, say at which input.
  Laid BY PROGRAM, IN A SANDBOX (cutbox-rows.mjs): the forced cells as the released guide's own fill.sh prints them over the translation 415a06d4a53c5b3a… (all of the seat's roots in one cut). By AI agents, Wed Nov 11 2026. No macro, syntax, notation, axiom, sorry.
-/
import Derived.Test.YtnaofcbbdlhjpaaChecked
import GoSem.Claim
import GoSem.ClaimJoined
import GoSem.ClaimMapViews
import Derived.JoinedTies
import Derived.KernelRfl
namespace Go.Proofs.Ytnaofcbbdlhjpaa
/- THE CELL 'sum', in the pinned program and in every row, IS THE sha256 OF THE DUMP (.gsa) THAT YtnaofcbbdlhjpaaProg.lean LOADS. Nothing in Lean hashes anything: it is a label: what it is worth is what the hold of that sum in a sandbox is worth. -/
noncomputable def Try.pinned : Pinned := { name := "ytnaofcbbdlhjpaa", sum := "415a06d4a53c5b3ab42618c3550c399075db34fb69cc124bf624caf242fe60ce", checked := Try.checked }
namespace Rows
def none {H : Type} : Left H := { results := [], args := [] }

/-- 'laws.FnConserved': WHATEVER THE INPUT: true; the input reads as it did. -/
def fnConservedSpec : ChangeSpec := { name := "fnConserved", fn := fun _ => fun
  | [d] => { results := [.lit (.bool true)], args := [d] }
  | _ => none }
def fnConservedRow : OpenClaim := { program := "ytnaofcbbdlhjpaa", sum := "415a06d4a53c5b3ab42618c3550c399075db34fb69cc124bf624caf242fe60ce", func := "loop.example/g00982/laws.FnConserved", spec := "fnConserved", unfollowed := true, recurses := true, apart := false }
def FnConservedSaid : Prop := fnConservedRow.holds Try.pinned (OpenSpec.ofChange fnConservedSpec)

/-- ITS FALSE NEIGHBOUR: 'it returns false'. Refute it at one input. -/
def fnConservedWrong : ChangeSpec := { name := "fnConserved", fn := fun _ => fun
  | [d] => { results := [.lit (.bool false)], args := [d] }
  | _ => none }
def FnConservedWrongFalsely : Prop := fnConservedRow.holds Try.pinned (OpenSpec.ofChange fnConservedWrong)

/-- 'laws.FnShareRange': WHATEVER THE INPUT: true; the input reads as it did. -/
def fnShareRangeSpec : ChangeSpec := { name := "fnShareRange", fn := fun _ => fun
  | [d] => { results := [.lit (.bool true)], args := [d] }
  | _ => none }
def fnShareRangeRow : OpenClaim := { program := "ytnaofcbbdlhjpaa", sum := "415a06d4a53c5b3ab42618c3550c399075db34fb69cc124bf624caf242fe60ce", func := "loop.example/g00982/laws.FnShareRange", spec := "fnShareRange", unfollowed := true, recurses := true, apart := false }
def FnShareRangeSaid : Prop := fnShareRangeRow.holds Try.pinned (OpenSpec.ofChange fnShareRangeSpec)

/-- ITS FALSE NEIGHBOUR: 'it returns false'. Refute it at one input. -/
def fnShareRangeWrong : ChangeSpec := { name := "fnShareRange", fn := fun _ => fun
  | [d] => { results := [.lit (.bool false)], args := [d] }
  | _ => none }
def FnShareRangeWrongFalsely : Prop := fnShareRangeRow.holds Try.pinned (OpenSpec.ofChange fnShareRangeWrong)

/-- 'laws.FnMacro': WHATEVER THE INPUT: true; the input reads as it did. -/
def fnMacroSpec : ChangeSpec := { name := "fnMacro", fn := fun _ => fun
  | [d] => { results := [.lit (.bool true)], args := [d] }
  | _ => none }
def fnMacroRow : OpenClaim := { program := "ytnaofcbbdlhjpaa", sum := "415a06d4a53c5b3ab42618c3550c399075db34fb69cc124bf624caf242fe60ce", func := "loop.example/g00982/laws.FnMacro", spec := "fnMacro", unfollowed := true, recurses := true, apart := false }
def FnMacroSaid : Prop := fnMacroRow.holds Try.pinned (OpenSpec.ofChange fnMacroSpec)

/-- ITS FALSE NEIGHBOUR: 'it returns false'. Refute it at one input. -/
def fnMacroWrong : ChangeSpec := { name := "fnMacro", fn := fun _ => fun
  | [d] => { results := [.lit (.bool false)], args := [d] }
  | _ => none }
def FnMacroWrongFalsely : Prop := fnMacroRow.holds Try.pinned (OpenSpec.ofChange fnMacroWrong)

/-- 'laws.FnActive': WHATEVER THE INPUT: true; the input reads as it did. -/
def fnActiveSpec : ChangeSpec := { name := "fnActive", fn := fun _ => fun
  | [d] => { results := [.lit (.bool true)], args := [d] }
  | _ => none }
def fnActiveRow : OpenClaim := { program := "ytnaofcbbdlhjpaa", sum := "415a06d4a53c5b3ab42618c3550c399075db34fb69cc124bf624caf242fe60ce", func := "loop.example/g00982/laws.FnActive", spec := "fnActive", recurses := true, apart := false }
def FnActiveSaid : Prop := fnActiveRow.holds Try.pinned (OpenSpec.ofChange fnActiveSpec)

/-- ITS FALSE NEIGHBOUR: 'it returns false'. Refute it at one input. -/
def fnActiveWrong : ChangeSpec := { name := "fnActive", fn := fun _ => fun
  | [d] => { results := [.lit (.bool false)], args := [d] }
  | _ => none }
def FnActiveWrongFalsely : Prop := fnActiveRow.holds Try.pinned (OpenSpec.ofChange fnActiveWrong)

/-- 'laws.FnExactIsActive': WHATEVER THE INPUT: true; the input reads as it did. -/
def fnExactIsActiveSpec : ChangeSpec := { name := "fnExactIsActive", fn := fun _ => fun
  | [d1, d2] => { results := [.lit (.bool true)], args := [d1, d2] }
  | _ => none }
def fnExactIsActiveRow : OpenClaim := { program := "ytnaofcbbdlhjpaa", sum := "415a06d4a53c5b3ab42618c3550c399075db34fb69cc124bf624caf242fe60ce", func := "loop.example/g00982/laws.FnExactIsActive", spec := "fnExactIsActive", apart := false }
def FnExactIsActiveSaid : Prop := fnExactIsActiveRow.holds Try.pinned (OpenSpec.ofChange fnExactIsActiveSpec)

/-- ITS FALSE NEIGHBOUR: 'it returns false'. Refute it at one input. -/
def fnExactIsActiveWrong : ChangeSpec := { name := "fnExactIsActive", fn := fun _ => fun
  | [d1, d2] => { results := [.lit (.bool false)], args := [d1, d2] }
  | _ => none }
def FnExactIsActiveWrongFalsely : Prop := fnExactIsActiveRow.holds Try.pinned (OpenSpec.ofChange fnExactIsActiveWrong)

/-- 'laws.FnExactStepState': WHATEVER THE INPUT: true; the input reads as it did. -/
def fnExactStepStateSpec : ChangeSpec := { name := "fnExactStepState", fn := fun _ => fun
  | [d1, d2] => { results := [.lit (.bool true)], args := [d1, d2] }
  | _ => none }
def fnExactStepStateRow : OpenClaim := { program := "ytnaofcbbdlhjpaa", sum := "415a06d4a53c5b3ab42618c3550c399075db34fb69cc124bf624caf242fe60ce", func := "loop.example/g00982/laws.FnExactStepState", spec := "fnExactStepState", unfollowed := true, recurses := true, apart := false }
def FnExactStepStateSaid : Prop := fnExactStepStateRow.holds Try.pinned (OpenSpec.ofChange fnExactStepStateSpec)

/-- ITS FALSE NEIGHBOUR: 'it returns false'. Refute it at one input. -/
def fnExactStepStateWrong : ChangeSpec := { name := "fnExactStepState", fn := fun _ => fun
  | [d1, d2] => { results := [.lit (.bool false)], args := [d1, d2] }
  | _ => none }
def FnExactStepStateWrongFalsely : Prop := fnExactStepStateRow.holds Try.pinned (OpenSpec.ofChange fnExactStepStateWrong)

/-- 'laws.FnExactMacroStep': WHATEVER THE INPUT: true; the input reads as it did. -/
def fnExactMacroStepSpec : ChangeSpec := { name := "fnExactMacroStep", fn := fun _ => fun
  | [d] => { results := [.lit (.bool true)], args := [d] }
  | _ => none }
def fnExactMacroStepRow : OpenClaim := { program := "ytnaofcbbdlhjpaa", sum := "415a06d4a53c5b3ab42618c3550c399075db34fb69cc124bf624caf242fe60ce", func := "loop.example/g00982/laws.FnExactMacroStep", spec := "fnExactMacroStep", unfollowed := true, recurses := true, apart := false }
def FnExactMacroStepSaid : Prop := fnExactMacroStepRow.holds Try.pinned (OpenSpec.ofChange fnExactMacroStepSpec)

/-- ITS FALSE NEIGHBOUR: 'it returns false'. Refute it at one input. -/
def fnExactMacroStepWrong : ChangeSpec := { name := "fnExactMacroStep", fn := fun _ => fun
  | [d] => { results := [.lit (.bool false)], args := [d] }
  | _ => none }
def FnExactMacroStepWrongFalsely : Prop := fnExactMacroStepRow.holds Try.pinned (OpenSpec.ofChange fnExactMacroStepWrong)

/-- 'laws.FnExactActiveFaces': WHATEVER THE INPUT: true; the input reads as it did. -/
def fnExactActiveFacesSpec : ChangeSpec := { name := "fnExactActiveFaces", fn := fun _ => fun
  | [d1, d2] => { results := [.lit (.bool true)], args := [d1, d2] }
  | _ => none }
def fnExactActiveFacesRow : OpenClaim := { program := "ytnaofcbbdlhjpaa", sum := "415a06d4a53c5b3ab42618c3550c399075db34fb69cc124bf624caf242fe60ce", func := "loop.example/g00982/laws.FnExactActiveFaces", spec := "fnExactActiveFaces", apart := false }
def FnExactActiveFacesSaid : Prop := fnExactActiveFacesRow.holds Try.pinned (OpenSpec.ofChange fnExactActiveFacesSpec)

/-- ITS FALSE NEIGHBOUR: 'it returns false'. Refute it at one input. -/
def fnExactActiveFacesWrong : ChangeSpec := { name := "fnExactActiveFaces", fn := fun _ => fun
  | [d1, d2] => { results := [.lit (.bool false)], args := [d1, d2] }
  | _ => none }
def FnExactActiveFacesWrongFalsely : Prop := fnExactActiveFacesRow.holds Try.pinned (OpenSpec.ofChange fnExactActiveFacesWrong)

/-- 'laws.FnExactFluxSum': WHATEVER THE INPUT: true; the input reads as it did. -/
def fnExactFluxSumSpec : ChangeSpec := { name := "fnExactFluxSum", fn := fun _ => fun
  | [d1, d2] => { results := [.lit (.bool true)], args := [d1, d2] }
  | _ => none }
def fnExactFluxSumRow : OpenClaim := { program := "ytnaofcbbdlhjpaa", sum := "415a06d4a53c5b3ab42618c3550c399075db34fb69cc124bf624caf242fe60ce", func := "loop.example/g00982/laws.FnExactFluxSum", spec := "fnExactFluxSum", unfollowed := true, recurses := true, apart := false }
def FnExactFluxSumSaid : Prop := fnExactFluxSumRow.holds Try.pinned (OpenSpec.ofChange fnExactFluxSumSpec)

/-- ITS FALSE NEIGHBOUR: 'it returns false'. Refute it at one input. -/
def fnExactFluxSumWrong : ChangeSpec := { name := "fnExactFluxSum", fn := fun _ => fun
  | [d1, d2] => { results := [.lit (.bool false)], args := [d1, d2] }
  | _ => none }
def FnExactFluxSumWrongFalsely : Prop := fnExactFluxSumRow.holds Try.pinned (OpenSpec.ofChange fnExactFluxSumWrong)

/- THE SECOND FORM. 'bulk': how many values and letters a reading holds, each counted each time it is reached (what is shared counts as often as it is met; a slice's spare places count too). A statement '..UptoSaid' is the law's where the arguments, and the package variables that the reading takes, are together of bulk at most 1048576: NARROWER than '..Said'. Prove '..Said' where nothing that the law and all that it calls make is longer than what came in: it says more and counts as full. Else prove '..UptoSaid'. A law counts once. -/
mutual
def uptoBulk {H : Type} : DataW H → Nat
  | .lit (.string bytes) => bytes.length + 1
  | .lit _ => 1
  | .nil => 1
  | .ptr d => uptoBulk d + 1
  | .slice elems spare => uptoBulkAll elems + uptoBulkAll spare + 1
  | .agg parts => uptoBulkAll parts + 1
  | .iface _ d => uptoBulk d + 1
  | .map entries => uptoBulkEntries entries + 1
  | .held _ => 1
def uptoBulkAll {H : Type} : List (DataW H) → Nat
  | [] => 0
  | d :: r => uptoBulk d + uptoBulkAll r
def uptoBulkEntries {H : Type} : List (Lit × DataW H) → Nat
  | [] => 0
  | x :: r => uptoBulkEntry x + uptoBulkEntries r
def uptoBulkEntry {H : Type} : Lit × DataW H → Nat
  | (.string bytes, d) => bytes.length + uptoBulk d + 1
  | (_, d) => uptoBulk d + 1
 end
def uptoSmall : (H : Type) → List (DataW H) → Bool := fun _ ds => decide (uptoBulkAll ds ≤ 1048576)
def OpenSpec.upto (s : _root_.Go.ChangeSpec) : _root_.Go.OpenSpec := { _root_.Go.OpenSpec.ofChange s with cond := some uptoSmall }

/-- 'laws.FnConserved', WHERE WHAT IT READS IS OF BULK AT MOST 1048576: true; the input reads as it did. -/
def fnConservedUptoRow : OpenClaim := { program := "ytnaofcbbdlhjpaa", sum := "415a06d4a53c5b3ab42618c3550c399075db34fb69cc124bf624caf242fe60ce", func := "loop.example/g00982/laws.FnConserved", spec := "fnConserved", unfollowed := true, recurses := true, apart := false, narrowed := true }
def FnConservedUptoSaid : Prop := fnConservedUptoRow.holds Try.pinned (OpenSpec.upto fnConservedSpec)

/-- 'laws.FnShareRange', WHERE WHAT IT READS IS OF BULK AT MOST 1048576: true; the input reads as it did. -/
def fnShareRangeUptoRow : OpenClaim := { program := "ytnaofcbbdlhjpaa", sum := "415a06d4a53c5b3ab42618c3550c399075db34fb69cc124bf624caf242fe60ce", func := "loop.example/g00982/laws.FnShareRange", spec := "fnShareRange", unfollowed := true, recurses := true, apart := false, narrowed := true }
def FnShareRangeUptoSaid : Prop := fnShareRangeUptoRow.holds Try.pinned (OpenSpec.upto fnShareRangeSpec)

/-- 'laws.FnMacro', WHERE WHAT IT READS IS OF BULK AT MOST 1048576: true; the input reads as it did. -/
def fnMacroUptoRow : OpenClaim := { program := "ytnaofcbbdlhjpaa", sum := "415a06d4a53c5b3ab42618c3550c399075db34fb69cc124bf624caf242fe60ce", func := "loop.example/g00982/laws.FnMacro", spec := "fnMacro", unfollowed := true, recurses := true, apart := false, narrowed := true }
def FnMacroUptoSaid : Prop := fnMacroUptoRow.holds Try.pinned (OpenSpec.upto fnMacroSpec)

/-- 'laws.FnActive', WHERE WHAT IT READS IS OF BULK AT MOST 1048576: true; the input reads as it did. -/
def fnActiveUptoRow : OpenClaim := { program := "ytnaofcbbdlhjpaa", sum := "415a06d4a53c5b3ab42618c3550c399075db34fb69cc124bf624caf242fe60ce", func := "loop.example/g00982/laws.FnActive", spec := "fnActive", recurses := true, apart := false, narrowed := true }
def FnActiveUptoSaid : Prop := fnActiveUptoRow.holds Try.pinned (OpenSpec.upto fnActiveSpec)

/-- 'laws.FnExactIsActive', WHERE WHAT IT READS IS OF BULK AT MOST 1048576: true; the input reads as it did. -/
def fnExactIsActiveUptoRow : OpenClaim := { program := "ytnaofcbbdlhjpaa", sum := "415a06d4a53c5b3ab42618c3550c399075db34fb69cc124bf624caf242fe60ce", func := "loop.example/g00982/laws.FnExactIsActive", spec := "fnExactIsActive", apart := false, narrowed := true }
def FnExactIsActiveUptoSaid : Prop := fnExactIsActiveUptoRow.holds Try.pinned (OpenSpec.upto fnExactIsActiveSpec)

/-- 'laws.FnExactStepState', WHERE WHAT IT READS IS OF BULK AT MOST 1048576: true; the input reads as it did. -/
def fnExactStepStateUptoRow : OpenClaim := { program := "ytnaofcbbdlhjpaa", sum := "415a06d4a53c5b3ab42618c3550c399075db34fb69cc124bf624caf242fe60ce", func := "loop.example/g00982/laws.FnExactStepState", spec := "fnExactStepState", unfollowed := true, recurses := true, apart := false, narrowed := true }
def FnExactStepStateUptoSaid : Prop := fnExactStepStateUptoRow.holds Try.pinned (OpenSpec.upto fnExactStepStateSpec)

/-- 'laws.FnExactMacroStep', WHERE WHAT IT READS IS OF BULK AT MOST 1048576: true; the input reads as it did. -/
def fnExactMacroStepUptoRow : OpenClaim := { program := "ytnaofcbbdlhjpaa", sum := "415a06d4a53c5b3ab42618c3550c399075db34fb69cc124bf624caf242fe60ce", func := "loop.example/g00982/laws.FnExactMacroStep", spec := "fnExactMacroStep", unfollowed := true, recurses := true, apart := false, narrowed := true }
def FnExactMacroStepUptoSaid : Prop := fnExactMacroStepUptoRow.holds Try.pinned (OpenSpec.upto fnExactMacroStepSpec)

/-- 'laws.FnExactActiveFaces', WHERE WHAT IT READS IS OF BULK AT MOST 1048576: true; the input reads as it did. -/
def fnExactActiveFacesUptoRow : OpenClaim := { program := "ytnaofcbbdlhjpaa", sum := "415a06d4a53c5b3ab42618c3550c399075db34fb69cc124bf624caf242fe60ce", func := "loop.example/g00982/laws.FnExactActiveFaces", spec := "fnExactActiveFaces", apart := false, narrowed := true }
def FnExactActiveFacesUptoSaid : Prop := fnExactActiveFacesUptoRow.holds Try.pinned (OpenSpec.upto fnExactActiveFacesSpec)

/-- 'laws.FnExactFluxSum', WHERE WHAT IT READS IS OF BULK AT MOST 1048576: true; the input reads as it did. -/
def fnExactFluxSumUptoRow : OpenClaim := { program := "ytnaofcbbdlhjpaa", sum := "415a06d4a53c5b3ab42618c3550c399075db34fb69cc124bf624caf242fe60ce", func := "loop.example/g00982/laws.FnExactFluxSum", spec := "fnExactFluxSum", unfollowed := true, recurses := true, apart := false, narrowed := true }
def FnExactFluxSumUptoSaid : Prop := fnExactFluxSumUptoRow.holds Try.pinned (OpenSpec.upto fnExactFluxSumSpec)

end Rows
end Go.Proofs.Ytnaofcbbdlhjpaa
